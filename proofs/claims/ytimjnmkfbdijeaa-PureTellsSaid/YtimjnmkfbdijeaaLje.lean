/-
  Spo: in one text.
-/
import Derived.Test.YtimjnmkfbdijeaaMq
import Derived.Test.YtimjnmkfbdijeaaLk
namespace Go.Proofs.Ytimjnmkfbdijeaa
open Go.RowKit
set_option maxRecDepth 100000
set_option linter.unusedSimpArgs false
set_option linter.unusedVariables false

/-- A cell of a row that may be written over, with its block. -/
theorem Rs.cellB {w : World} {lo hi e size n : Nat} {A : Option Addr} (h : Rs w lo hi e size A n) {i : Nat} (hi' : i < n * size) : ∃ g u k, A = some ⟨g, 0, none⟩ ∧ lo ≤ g ∧ g < hi ∧ w.cell? ⟨g, i, none⟩ = some u ∧ w.frozen? ⟨g, i, none⟩ = false ∧ Bk w g e k := by
  rcases h with h | ⟨g, cur, h1, h2, h3, h4, h5⟩
  · subst h
    omega
  · exact ⟨g, cur[i]'(by omega), cur.size, h1, h2, h3, by rw [cell_of_row w g i cur e (0, 0) h4, Array.getElem?_eq_getElem (by omega)], frozen_of_row w g i cur e h4, cur, h4, rfl⟩
/-- The methods from i on are as they were. -/
def Msr (w : World) (A : Option Addr) (Z : List Me) (i : Nat) : Prop := Z = [] ∨ ∃ g k, A = some ⟨g, 0, none⟩ ∧ Bk w g 52 k ∧ ∀ j z, i ≤ j → Z[j]? = some z → At8 w ⟨g, j * 8, none⟩ z
/-- Amid Spoil: the argument in block W. -/
def Py (w : World) (lo hi W : Nat) (y : Ma) (d : Md) (i : Nat) (wr : World) : Prop := Sp lo hi w wr ∧ Db wr W y d ∧ Ow wr lo hi y d ∧ Msr wr y.A y.Z i ∧ hi ≤ W ∧ w.heap.size ≤ W ∧ y.Z.length = d.s.length
section
variable {w wr w' : World} {lo hi W i : Nat} {y : Ma} {d : Md}
theorem bk_ne {a b ta tb ka kb : Nat} (h : Bk wr a ta ka) (k : Bk wr b tb kb) (hne : ta ≠ tb) : a ≠ b := fun e => by
  subst e
  obtain ⟨c1, e1, _⟩ := h
  obtain ⟨c2, e2, _⟩ := k
  rw [e1] at e2
  injection e2 with e2
  injection e2 with _ e3 _
  exact hne e3
theorem At8.other {p q : Addr} {z : Me} (h : At8 wr p z) (hq : q.block ≠ p.block ∨ (q.off < p.off ∨ p.off + 8 ≤ q.off)) (v : Value) (hp : ∃ b o, p = ⟨b, o, none⟩) : At8 (wr.setCell q v) p z := by
  obtain ⟨h1, h2, h3, h4, h5, h6, h7, h8⟩ := h
  have ne : ∀ j, j < 8 → q ≠ (⟨p.block, p.off + j, none⟩ : Addr) := fun j hj e => by
    rw [e] at hq
    rcases hq with hq | hq
    · exact hq rfl
    · dsimp only at hq; omega
  have e0 : p = ⟨p.block, p.off + 0, none⟩ := by obtain ⟨b, o, rfl⟩ := hp; rfl
  refine ⟨?_, ?_, ?_, ?_, ?_, ?_, ?_, ?_⟩
  · rw [e0, World.cell?_setCell_other _ _ _ _ (ne 0 (by omega)), ← e0]; exact h1
  all_goals (rw [World.cell?_setCell_other _ _ _ _ (ne _ (by omega))]; assumption)
/-- A write to a row of another type. -/
theorem Py.put (h : Py w lo hi W y d i wr) {g e k : Nat} (hb : Bk wr g e k) (hne : e ≠ 52) (h1 : lo ≤ g) (h2 : g < hi) (j : Nat) (v : Value) : Py w lo hi W y d i (wr.setCell ⟨g, j, none⟩ v) := by
  obtain ⟨a1, a2, a3, a4, a5, a6, a7⟩ := h
  refine ⟨a1.set h1 h2 j v, a2.other (show g ≠ W by omega) v, a3.set g j v, ?_, a5, a6, a7⟩
  rcases a4 with a4 | ⟨g2, k2, b1, b2, b3⟩
  · exact .inl a4
  · exact .inr ⟨g2, k2, b1, b2.set g j v, fun j2 z hj hz => (b3 j2 z hj hz).other (.inl (bk_ne hb b2 hne)) v ⟨_, _, rfl⟩⟩
theorem Py.fuel (h : Py w lo hi W y d i wr) {g k : Nat} (hA : y.A = some ⟨g, 0, none⟩) (hb : Bk wr g 52 k) (h1 : lo ≤ g) (h2 : g < hi) (v : Value) : Py w lo hi W y d (i + 1) (wr.setCell ⟨g, i * 8 + 4, none⟩ v) := by
  obtain ⟨a1, a2, a3, a4, a5, a6, a7⟩ := h
  refine ⟨a1.set h1 h2 _ v, a2.other (show g ≠ W by omega) v, a3.set g _ v, ?_, a5, a6, a7⟩
  rcases a4 with a4 | ⟨g2, k2, b1, b2, b3⟩
  · exact .inl a4
  · rw [hA] at b1
    injection b1 with b1
    injection b1 with b1
    subst b1
    exact .inr ⟨g, k2, hA, b2.set g _ v, fun j2 z hj hz => (b3 j2 z (by omega) hz).other (.inr (.inl (by show i * 8 + 4 < j2 * 8; omega))) v ⟨_, _, rfl⟩⟩
theorem Py.call (h : Py w lo hi W y d i wr) (hb : Below wr.heap.size wr w') : Py w lo hi W y d i w' := by
  obtain ⟨a1, a2, a3, a4, a5, a6, a7⟩ := h
  refine ⟨a1.call hb, a2.keep hb, a3.keep hb, ?_, a5, a6, a7⟩
  rcases a4 with a4 | ⟨g2, k2, b1, b2, b3⟩
  · exact .inl a4
  · exact .inr ⟨g2, k2, b1, b2.keep hb, fun j2 z hj hz => (b3 j2 z hj hz).keep hb⟩
theorem Py.start (hq : Hq w y d) (ho : Ow w lo hi y d) (hh : hi ≤ w.heap.size) : Py w lo hi w.heap.size y d 0 (w.alloc (dcel y d)) := by
  refine ⟨Sp.of_below new1, Db.new w y d, ho.keep new1, ?_, hh, Nat.le_refl _, hq.zlen⟩
  rcases hq.2.2.1.2.2.2 with ⟨hn, hc⟩ | ⟨ad, e0, hc⟩
  · left
    have := hq.2.2.1.le
    exact List.eq_nil_of_length_eq_zero (by omega)
  · by_cases hZ : y.Z = []
    · exact .inl hZ
    · right
      have hl : 0 < d.s.length := by rw [← hq.zlen]; exact (List.length_pos_iff.2 hZ)
      rcases ho.2.2.1 with h0 | ⟨g, cur, a1, a2, a3, a4, a5⟩
      · omega
      · refine ⟨g, cur.size, a1, Bk.keep ⟨cur, a4, rfl⟩ new1, fun j z _ hz => ?_⟩
        rw [e0] at a1
        injection a1 with a1
        subst a1
        have h8 := (hc j z hz).keep (new1 (a := dcel y d))
        have e : (⟨g, 0, none⟩ : Addr).add (j * 8) = ⟨g, j * 8, none⟩ := by
          unfold Addr.add
          split
          · rename_i h0; simp [h0]
          · simp
        rw [e] at h8
        exact h8
end
set_option maxHeartbeats 8000000 in
theorem spoil_v (y : Ma) (d : Md) (w : World) (lo hi : Nat) (hq : Hq w y d) (ho : Ow w lo hi y d) (hh : hi ≤ w.heap.size) (b1 : d.g.length ≤ 1000000) (b2 : d.p.length ≤ 1000000) (b3 : d.s.length ≤ 1000000) (b4 : ∀ z ∈ y.Z, z.m.a.length ≤ 1000000 ∧ z.m.l.length ≤ 1000000 ∧ z.x.k ≤ 1000000) :
    Calls Try.prog 19 #[dv y d] w fun r w' => r = .returned (.tuple #[]) ∧ Sp lo hi w w' := by
  obtain ⟨G, gc, P, pc, A, c, Z⟩ := y
  dsimp only at b4
  have HB4 := Lib.hid b4
  have HP0 := Lib.hid (Py.start hq ho hh)
  clear hq ho hh b4
  go_enter Try.func19, Try.ntmps19
  go_upto_region 1 with (fail)
  have HP1 : Hid (Py w lo hi w.heap.size ⟨G, gc, P, pc, A, c, Z⟩ d 0 (w.alloc (.cells #[.slice G d.g.length gc, .slice P d.p.length pc, .slice A d.s.length c, .int .i64 d.i] 25))) := HP0
  clear HP0
  generalize w.alloc (.cells #[.slice G d.g.length gc, .slice P d.p.length pc, .slice A d.s.length c, .int .i64 d.i] 25) = w0 at HP1 ⊢
  obtain ⟨W, hW⟩ : ∃ W, w.heap.size = W := ⟨_, rfl⟩
  rw [hW] at HP1 ⊢
  clear hW
  go_wp2_with fail
  go_loopw [2] (fun i wr => ∃ (j : Nat), j ≤ d.g.length ∧ i = .int .i64 j ∧ Hid (Py w lo hi W ⟨G, gc, P, pc, A, c, Z⟩ d 0 wr)) (fun i _ => d.g.length - (intOf i).toNat)
  case atStart => exact ⟨0, by omega, rfl, HP1⟩
  case round =>
    obtain ⟨j, hj, rfl, HP⟩ := hrel
    clear HP1
    obtain ⟨y0, y1, y2, y3, y4⟩ := HP.out.2.1
    dsimp only at y1 y2 y3
    by_cases h1 : j < d.g.length
    · obtain ⟨g, u, k, hA, hg1, hg2, hc, hf, hk⟩ := HP.out.2.2.1.1.cellB (i := j * 3) (by omega)
      dsimp only at hA
      subst hA
      have HP2 := Lib.hid (HP.out.put hk (by decide) hg1 hg2 (j * 3) (.int .u8 77))
      clear HP hg1 hg2 hk
      go_wp2_with fail
      go_roundw
      case rel => exact ⟨j + 1, by omega, by go_num, HP2⟩
      case measure => simp [intOf]; omega
    · obtain rfl : j = d.g.length := by omega
      go_wp2_with fail
      clear y0 y1 y2 y3 y4
      go_loopw [3] (fun i wr => ∃ (j : Nat), j ≤ d.p.length ∧ i = .int .i64 j ∧ Hid (Py w lo hi W ⟨G, gc, P, pc, A, c, Z⟩ d 0 wr)) (fun i _ => d.p.length - (intOf i).toNat)
      case atStart => exact ⟨0, by omega, rfl, HP⟩
      case round =>
        obtain ⟨j, hj, rfl, HP1⟩ := hrel
        clear HP
        have HP := HP1
        clear HP1
        obtain ⟨y0, y1, y2, y3, y4⟩ := HP.out.2.1
        dsimp only at y1 y2 y3
        by_cases h1 : j < d.p.length
        · obtain ⟨g, u, k, hA, hg1, hg2, hc, hf, hk⟩ := HP.out.2.2.1.2.1.cellB (i := j * 3) (by omega)
          dsimp only at hA
          subst hA
          have HP2 := Lib.hid (HP.out.put hk (by decide) hg1 hg2 (j * 3) (.int .u8 77))
          clear HP hg1 hg2 hk
          go_wp2_with fail
          go_roundw
          case rel => exact ⟨j + 1, by omega, by go_num, HP2⟩
          case measure => simp [intOf]; omega
        · obtain rfl : j = d.p.length := by omega
          go_wp2_with fail
          clear y0 y1 y2 y3 y4
          go_loopw [4] (fun i wr => ∃ (j : Nat), j ≤ d.s.length ∧ i = .int .i64 j ∧ Hid (Py w lo hi W ⟨G, gc, P, pc, A, c, Z⟩ d j wr)) (fun i _ => d.s.length - (intOf i).toNat)
          case atStart => exact ⟨0, by omega, rfl, HP⟩
          case round =>
            obtain ⟨j, hj, rfl, HP1⟩ := hrel
            clear HP
            have HP := HP1
            clear HP1
            obtain ⟨y0, y1, y2, y3, y4⟩ := HP.out.2.1
            dsimp only at y1 y2 y3
            by_cases h1 : j < d.s.length
            · have hZ1 : j < Z.length := by have := HP.out.2.2.2.2.2.2; dsimp only at this; omega
              rcases HP.out.2.2.2.1 with h0 | ⟨g, kM, hA, hkM, h8⟩
              · dsimp only at h0
                rw [h0] at hZ1
                exact absurd hZ1 (by simp)
              · dsimp only at hA h8
                subst hA
                have hz := h8 j Z[j] (Nat.le_refl _) (List.getElem?_eq_getElem hZ1)
                have HZM := Lib.hid (List.getElem_mem hZ1)
                have HZB := Lib.hid (HB4.out Z[j] (List.getElem_mem hZ1))
                clear h8
                generalize Z[j] = z at *
                obtain ⟨⟨XA, xc, XB, xd, XD, xk, xe⟩, m, k⟩ := z
                obtain ⟨q1, q2, q3⟩ := HZB.out
                dsimp only at q1 q2 q3
                obtain ⟨x0, x1, x2, x3, x4, x5, x6, x7⟩ := hz
                dsimp only at x0 x1 x2 x3 x4 x5 x6 x7
                have HQ := Lib.hid (And.intro (HP.out.call (new1 (a := hcel ⟨XA, xc, XB, xd, XD, xk, xe⟩ m))) (Mb.new wr ⟨XA, xc, XB, xd, XD, xk, xe⟩ m))
                have HTb := Lib.hid (show hi ≤ wr.heap.size from Nat.le_trans HP.out.2.2.2.2.1 (Nat.le_of_lt y0))
                go_upto_region 13 with (fail)
                obtain ⟨wb, hwb⟩ : ∃ wb, wr.alloc (hcel ⟨XA, xc, XB, xd, XD, xk, xe⟩ m) = wb := ⟨_, rfl⟩
                rw [hwb] at HQ
                rw [hcel] at hwb
                dsimp only at hwb
                rw [hwb]
                obtain ⟨Tb, hTb⟩ : ∃ Tb, wr.heap.size = Tb := ⟨_, rfl⟩
                rw [hTb] at HQ HTb ⊢
                clear hwb hTb x0 x1 x2 x3 x4 x5 x6 x7 y0 y1 y2 y3 y4 HP hkM
                go_wp2_with fail
                go_loopw [6] (fun i wr => ∃ (q : Nat), q ≤ m.a.length ∧ i = .int .i64 q ∧ Hid (Py w lo hi W ⟨G, gc, P, pc, some ⟨g, 0, none⟩, c, Z⟩ d j wr ∧ Mb wr Tb ⟨XA, xc, XB, xd, XD, xk, xe⟩ m)) (fun i _ => m.a.length - (intOf i).toNat)
                case atStart => exact ⟨0, by omega, rfl, HQ⟩
                case round =>
                  obtain ⟨q, hq, rfl, HQ1⟩ := hrel
                  clear HQ
                  have HQ := HQ1
                  clear HQ1
                  obtain ⟨z0, z1, z2, z3, z4, z5, z6, z7, z8⟩ := HQ.out.2
                  dsimp only at z1 z2 z8
                  by_cases h2 : q < m.a.length
                  · obtain ⟨gR, u, kR, hR, hg1, hg2, hc, hf, hk⟩ := (HQ.out.1.2.2.1.2.2.2 _ HZM.out).1.cellB (i := q) (by dsimp only; omega)
                    dsimp only at hR
                    subst hR
                    have HQ2 := Lib.hid (And.intro (HQ.out.1.put hk (by decide) hg1 hg2 (q) (.int .u8 77)) (HQ.out.2.other (p := ⟨gR, q, none⟩) (show gR ≠ Tb by have := HTb.out; omega) (.int .u8 77)))
                    clear HQ hg1 hg2 hk
                    go_wp2_with fail
                    go_roundw
                    case rel => exact ⟨q + 1, by omega, by go_num, HQ2⟩
                    case measure => simp [intOf]; omega
                  · obtain rfl : q = m.a.length := by omega
                    go_wp2_with fail
                    clear z0 z1 z2 z3 z4 z5 z6 z7 z8
                    go_loopw [7] (fun i wr => ∃ (q : Nat), q ≤ m.l.length ∧ i = .int .i64 q ∧ Hid (Py w lo hi W ⟨G, gc, P, pc, some ⟨g, 0, none⟩, c, Z⟩ d j wr ∧ Mb wr Tb ⟨XA, xc, XB, xd, XD, xk, xe⟩ m)) (fun i _ => m.l.length - (intOf i).toNat)
                    case atStart => exact ⟨0, by omega, rfl, HQ⟩
                    case round =>
                      obtain ⟨q, hq, rfl, HQ1⟩ := hrel
                      clear HQ
                      have HQ := HQ1
                      clear HQ1
                      obtain ⟨z0, z1, z2, z3, z4, z5, z6, z7, z8⟩ := HQ.out.2
                      dsimp only at z1 z2 z8
                      by_cases h2 : q < m.l.length
                      · obtain ⟨gR, u, kR, hR, hg1, hg2, hc, hf, hk⟩ := (HQ.out.1.2.2.1.2.2.2 _ HZM.out).2.1.cellB (i := q) (by dsimp only; omega)
                        dsimp only at hR
                        subst hR
                        have HQ2 := Lib.hid (And.intro (HQ.out.1.put hk (by decide) hg1 hg2 (q) (.int .u8 77)) (HQ.out.2.other (p := ⟨gR, q, none⟩) (show gR ≠ Tb by have := HTb.out; omega) (.int .u8 77)))
                        clear HQ hg1 hg2 hk
                        go_wp2_with fail
                        go_roundw
                        case rel => exact ⟨q + 1, by omega, by go_num, HQ2⟩
                        case measure => simp [intOf]; omega
                      · obtain rfl : q = m.l.length := by omega
                        go_wp2_with fail
                        clear z0 z1 z2 z3 z4 z5 z6 z7 z8
                        go_loopw [8] (fun i wr => ∃ (q : Nat), q ≤ xk ∧ i = .int .i64 q ∧ Hid (Py w lo hi W ⟨G, gc, P, pc, some ⟨g, 0, none⟩, c, Z⟩ d j wr ∧ Mb wr Tb ⟨XA, xc, XB, xd, XD, xk, xe⟩ m)) (fun i _ => xk - (intOf i).toNat)
                        case atStart => exact ⟨0, by omega, rfl, HQ⟩
                        case round =>
                          obtain ⟨q, hq, rfl, HQ1⟩ := hrel
                          clear HQ
                          have HQ := HQ1
                          clear HQ1
                          obtain ⟨z0, z1, z2, z3, z4, z5, z6, z7, z8⟩ := HQ.out.2
                          dsimp only at z1 z2 z8
                          by_cases h2 : q < xk
                          · obtain ⟨gR, u, kR, hR, hg1, hg2, hc, hf, hk⟩ := (HQ.out.1.2.2.1.2.2.2 _ HZM.out).2.2.cellB (i := q * 3) (by dsimp only; omega)
                            dsimp only at hR
                            subst hR
                            have HQ2 := Lib.hid (And.intro (HQ.out.1.put hk (by decide) hg1 hg2 (q * 3) (.int .u8 77)) (HQ.out.2.other (p := ⟨gR, q * 3, none⟩) (show gR ≠ Tb by have := HTb.out; omega) (.int .u8 77)))
                            clear HQ hg1 hg2 hk
                            go_wp2_with fail
                            go_roundw
                            case rel => exact ⟨q + 1, by omega, by go_num, HQ2⟩
                            case measure => simp [intOf]; omega
                          · obtain rfl : q = xk := by omega
                            obtain ⟨y0, y1, y2, y3, y4⟩ := HQ.out.1.2.1
                            dsimp only at y1 y2 y3
                            obtain ⟨gF, u, kF, hF, hg1, hg2, hc, hf, hk⟩ := HQ.out.1.2.2.1.2.2.1.cellB (i := j * 8 + 4) (by omega)
                            injection hF with hF
                            injection hF with hF
                            subst hF
                            have HP2 := Lib.hid (HQ.out.1.fuel rfl hk hg1 hg2 (.int .i64 77))
                            clear HQ hg1 hg2 hk
                            go_wp2_with fail
                            go_roundw
                            case rel => exact ⟨j + 1, by omega, by go_num, HP2⟩
                            case measure => simp [intOf]; omega
            · obtain rfl : j = d.s.length := by omega
              go_wp2_with fail
              go_end0
              exact ⟨rfl, HP.out.1⟩
theorem qG_bd {w : World} {y : Ma} {d : Md} (hq : Hq w y d) (h : qG d = false) : d.g.length ≤ 100 ∧ d.p.length ≤ 100 ∧ d.s.length ≤ 40 ∧ ∀ z ∈ y.Z, z.m.a.length ≤ 100 ∧ z.m.l.length ≤ 100 ∧ z.x.k ≤ 300 := by
  rw [qG, Bool.or_eq_false_iff, Bool.or_eq_false_iff, Bool.or_eq_false_iff, decide_eq_false_iff_not, decide_eq_false_iff_not, decide_eq_false_iff_not, List.any_eq_false] at h
  obtain ⟨h1, h2, h3, h4⟩ := h
  refine ⟨by omega, by omega, by omega, fun z hz => ?_⟩
  have h5 := h4 (z.m, z.k) (by rw [← hq.2.2.2.1]; exact List.mem_map.2 ⟨z, hz, rfl⟩)
  have h6 := (hq.2.2.1.1 z hz).2.2
  rw [qgE, Bool.not_eq_true, Bool.or_eq_false_iff, decide_eq_false_iff_not] at h5
  have h7 := gB_no h5.1
  have h8 := h5.2
  dsimp only at h7 h8
  omega
theorem spoilw {y : Ma} {d : Md} {w : World} {lo hi : Nat} (hq : Hq w y d) (ho : Ow w lo hi y d) (hh : hi ≤ w.heap.size) (hg : qG d = false) : Calls Try.prog 19 #[dv y d] w fun r w' => r = .returned (.tuple #[]) ∧ Sp lo hi w w' := by
  obtain ⟨h1, h2, h3, h4⟩ := qG_bd hq hg
  exact spoil_v y d w lo hi hq ho hh (by omega) (by omega) (by omega) (fun z hz => by have := h4 z hz; omega)
end Go.Proofs.Ytimjnmkfbdijeaa
