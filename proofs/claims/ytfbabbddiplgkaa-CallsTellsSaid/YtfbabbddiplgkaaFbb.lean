/-
  Layer 11: the reference's Leads.
-/
import Derived.Test.YtfbabbddiplgkaaFba
import Derived.Test.YtfbabbddiplgkaaFae
namespace Go.Proofs.Ytfbabbddiplgkaa
open Go.RowKit
set_option maxRecDepth 100000
set_option linter.unusedSimpArgs false
set_option linter.unusedVariables false

theorem le11_last {e : Nat → Nat → Bool} {n k j : Nat} (h : Le11 e n k j) : e k j = true ∨ ∃ i, i < n ∧ Le11 e n k i ∧ e i j = true := by
  induction h with
  | one h1 h2 h3 => exact .inl h3
  | more h1 h2 h3 _ ih =>
    rcases ih with ih | ⟨i, a, b, c⟩
    · exact .inr ⟨_, h2, .one h1 h2 h3, ih⟩
    · exact .inr ⟨i, a, .more h1 h2 h3 b, c⟩
/-- Who is in, in the turn T, those below m being through. -/
structure In11 (e : Nat → Nat → Bool) (n : Nat) (r : Nat → Nat) (k T m : Nat) (P : Nat → Bool) : Prop where
  so : ∀ j, P j = true → Le11 e n k j
  t0 : ∀ j, Le11 e n k j → r k ≤ r j + T → P j = true
  t1 : ∀ j, j < m → Le11 e n k j → r k ≤ r j + (T + 1) → P j = true
def up11 (P : Nat → Bool) (m : Nat) (v : Bool) : Nat → Bool := fun t => if t = m then v else P t
section
variable {e : Nat → Nat → Bool} {n : Nat} {r : Nat → Nat} {k T m i : Nat} {P : Nat → Bool} {v : Bool}
theorem In11.start (hr : Rk11 e n r) : In11 e n r k 0 0 (fun _ => false) := ⟨fun j h => (by cases h), fun j h hl => absurd (h.rk hr) (by omega), fun j h => absurd h (by omega)⟩
theorem In11.turn (h : In11 e n r k T n P) : In11 e n r k (T + 1) 0 P := ⟨h.so, fun j hl ht => h.t1 j hl.lt.2 hl ht, fun j h => absurd h (by omega)⟩
theorem In11.upd (h : In11 e n r k T m P) (hv : v = true → Le11 e n k m) (hm : P m = true → v = true) : In11 e n r k T m (up11 P m v) := by
  refine ⟨fun j hj => ?_, fun j hl ht => ?_, fun j hj hl ht => ?_⟩
  · unfold up11 at hj
    split at hj
    · rename_i e1; rw [e1]; exact hv hj
    · exact h.so j hj
  · unfold up11
    split
    · rename_i e1; subst e1; exact hm (h.t0 _ hl ht)
    · exact h.t0 j hl ht
  · unfold up11
    rw [if_neg (by omega)]
    exact h.t1 j hj hl ht
theorem up11_self : up11 P m v m = v := by unfold up11; rw [if_pos rfl]
theorem in11_own (hk : k < n) (hm : m < n) (h : In11 e n r k T m P) (hv : (P m || e k m) = v) : In11 e n r k T m (up11 P m v) ∧ (e k m = true → up11 P m v m = true) := by
  refine ⟨h.upd (fun h1 => ?_) (fun h1 => by rw [← hv, h1]; rfl), fun h1 => by rw [up11_self, ← hv, h1, Bool.or_true]⟩
  rw [← hv, Bool.or_eq_true] at h1
  exact h1.elim (h.so m) fun h2 => .one hk hm h2
theorem in11_pass (hk : k < n) (hi : i < n) (hm : m < n) (h : In11 e n r k T m P) (hc : e k m = true → P m = true) (hq : ∀ i', i' < i → P i' = true → e i' m = true → P m = true) (hv : (P m || (P i && e i m)) = v) :
    In11 e n r k T m (up11 P m v) ∧ (e k m = true → up11 P m v m = true) ∧ ∀ i', i' < i + 1 → up11 P m v i' = true → e i' m = true → up11 P m v m = true := by
  refine ⟨h.upd (fun h1 => ?_) (fun h1 => by rw [← hv, h1]; rfl), fun h1 => by rw [up11_self, ← hv, hc h1]; rfl, fun i' hi' h1 h2 => ?_⟩
  · rw [← hv, Bool.or_eq_true, Bool.and_eq_true] at h1
    exact h1.elim (h.so m) fun h2 => (h.so i h2.1).trans (.one hi hm h2.2)
  · rw [up11_self]
    unfold up11 at h1
    split at h1
    · exact h1
    · by_cases e1 : i' = i
      · subst e1
        rw [← hv, h1, h2]
        simp
      · rw [← hv, hq i' (by omega) h1 h2]
        rfl
theorem in11_done (hr : Rk11 e n r) (hm : m < n) (h : In11 e n r k T m P) (hc : e k m = true → P m = true) (hq : ∀ i', i' < n → P i' = true → e i' m = true → P m = true) : In11 e n r k T (m + 1) P := by
  refine ⟨h.so, h.t0, fun j hj hl ht => ?_⟩
  by_cases e1 : j = m
  · subst e1
    rcases le11_last hl with h1 | ⟨i, h1, h2, h3⟩
    · exact hc h1
    · have := hr i j h1 hm h3
      exact hq i h1 (h.t0 i h2 (by omega)) h3
  · exact h.t1 j (by omega) hl ht
end
/-- A row of Booleans. -/
def bw11 (n : Nat) (P : Nat → Bool) : List Value := (List.range n).map fun t => .bool (P t)
theorem bw11_at {n t : Nat} {P : Nat → Bool} (h : t < n) : (bw11 n P)[t]? = some (.bool (P t)) := by
  rw [bw11, List.getElem?_map, List.getElem?_range h]
  rfl
theorem bw11_set {n m : Nat} {P : Nat → Bool} {v : Bool} : (bw11 n P).set m (.bool v) = bw11 n (up11 P m v) := by
  apply List.ext_getElem?
  intro j
  rw [List.getElem?_set]
  by_cases hj : j < n
  · by_cases e1 : m = j
    · subst e1
      rw [if_pos rfl, if_pos (by simpa [bw11] using hj), bw11_at hj, up11_self]
    · rw [if_neg e1, bw11_at hj, bw11_at hj]
      unfold up11
      rw [if_neg fun e2 => e1 e2.symm]
  · have hl : ∀ Q : Nat → Bool, (bw11 n Q)[j]? = none := fun Q => List.getElem?_eq_none (by simp [bw11]; omega)
    rw [hl, hl]
    split
    · rename_i e1
      rw [if_neg (by simp [bw11]; omega)]
    · rfl
theorem Try.infoBo11 : (Try.prog.info? 4).map (fun i => (i.zero, i.size, i.bytes)) = some (some (.bool false), 1, 1) := by kernel_rfl
theorem madeB11 (n : Nat) (hn : n ≤ 1000) (w : World) : (Instr.makeSlice 61 (.int .i64 (n : Int)) (.int .i64 (n : Int))).run Try.prog w = .ok (.slice (some ⟨w.heap.size, 0, none⟩) n n) (w.alloc (.cells (List.replicate n (.bool false)).toArray 4)) := by
  have hinfo := Try.infoBo11
  rw [Option.map_eq_some_iff] at hinfo
  obtain ⟨i, hi, hz⟩ := hinfo
  simp only [Prod.mk.injEq] at hz
  obtain ⟨hz0, hz1, hz2⟩ := hz
  have hr := run_make (P := Try.prog) w 61 4 i (.bool false) Try.underlying61 hi hz0 .i64 .i64 n n (by omega) (Int.le_refl _) (by rw [hz2]; omega) (by omega)
  rw [hr, hz1, Int.toNat_natCast, Nat.mul_one]
  have e : madeCells #[Value.bool false] n = (List.replicate n (Value.bool false)).toArray := by
    rw [← toList_madeCells_one, Array.toArray_toList]
  rw [← e]
  rfl
set_option maxHeartbeats 16000000 in
theorem r11leads_v (y : Ma) (d : Md) (k : Int) (w : World) (hq : Hq w y d) (bs : d.s.length ≤ 1000) : Calls Try.prog 11 #[dv y d, .int .i64 k] w fun r w' => Ns11 w w' (le11 d k) r := by
  have hzl := hq.zlen
  obtain ⟨G, gc, PP, pc, AA, cc, Z⟩ := y
  dsimp only at hzl
  have HZL := Lib.hid hzl
  have S0 := Lib.hid ((((Sx.start w).add (fQm ⟨G, gc, PP, pc, AA, cc, Z⟩ d) hq).mkD ⟨G, gc, PP, pc, AA, cc, Z⟩ d))
  obtain ⟨B, hB⟩ : ∃ B, w.heap.size = B := ⟨_, rfl⟩
  have HBB := Lib.hid hB
  rw [hB] at S0
  have hmk := madeB11 d.s.length bs
  clear hq hzl
  go_enter Try.func11, Try.ntmps11
  go_upto_region 1 with (fail)
  change Code.wp _ _ _ _ (w.alloc (dcel ⟨G, gc, PP, pc, AA, cc, Z⟩ d))
  generalize w.alloc (dcel ⟨G, gc, PP, pc, AA, cc, Z⟩ d) = w1 at S0 ⊢
  clear hB
  have HGR := Lib.hid (r11order_v ⟨G, gc, PP, pc, AA, cc, Z⟩ d w1 S0.out.2.2.1 bs)
  obtain ⟨-, ⟨d0, d1, d2, d3, d4⟩, -⟩ := S0.out
  dsimp only at d1 d2 d3
  go_wp2_with fail
  refine HGR.out.mono ?_
  clear HGR d0 d1 d2 d3 d4
  rintro r w2 ⟨Ao, co, rfl, ho, hb⟩
  have S2 := Lib.hid (S0.out.call hb)
  clear ho hb S0
  by_cases h0 : (ro11 d).2 = 0
  · have HRO := Lib.hid h0
    obtain ⟨r, hrk, hrb⟩ := ro11_rk h0
    rw [h0]
    clear h0
    have HBF := Lib.hid S2.out.1
    obtain ⟨-, ⟨d0, d1, d2, d3, d4⟩, -⟩ := S2.out
    dsimp only at d1 d2 d3
    by_cases hk0 : k < 0
    · have HE := Lib.hid (Ns11.err (w := w) (w' := w2) (T := le11 d k) (e := 2) (by rw [le11, if_pos HRO.out, if_pos (.inl hk0)]) HBF.out)
      go_wp2_with fail
      go_ret2
      exact HE.out
    by_cases hks : (d.s.length : Int) ≤ k
    · have HE := Lib.hid (Ns11.err (w := w) (w' := w2) (T := le11 d k) (e := 2) (by rw [le11, if_pos HRO.out, if_pos (.inr hks)]) HBF.out)
      go_wp2_with fail
      go_ret2
      exact HE.out
    obtain ⟨k, rfl⟩ : ∃ k' : Nat, k = k' := ⟨k.toNat, by omega⟩
    have hk3 : k < d.s.length := by omega
    obtain ⟨ad8, hA8, -⟩ := S2.out.2.2.1.2.2.1.at_ (i := k) (by rw [HZL.out]; exact hk3)
    dsimp only at hA8
    subst hA8
    have qk : decide ((k : Int) < 0) = false := by simp
    have qk2 : decide (d.s.length ≤ k) = false := by simp; omega
    have qk3 : decide ((d.s.length : Int) ≤ k) = false := by simp; omega
    clear hk0 hks
    go_wp2_with fail
    clear qk qk2 qk3
    obtain ⟨g, hg⟩ : ∃ g, w2.heap.size = g := ⟨_, rfl⟩
    have HG2 := Lib.hid hg
    rw [hg]
    have HR0 : Hid ((w2.alloc (.cells (Array.replicate d.s.length (Value.bool false)) 4)).ownsRow w.heap.size 4 1 (.slice (some ⟨g, 0, none⟩) d.s.length d.s.length) d.s.length (bw11 d.s.length (fun _ => false))) := Lib.hid (by
      have := World.ownsRow_lit (base := w.heap.size) (size := 1) (e := 4) w2 (List.replicate d.s.length (Value.bool false)).toArray d.s.length HBF.out.size (by unfold maxLen; omega) (by simp)
      rw [hg] at this
      have e : bw11 d.s.length (fun _ => false) = List.replicate d.s.length (Value.bool false) := by
        apply List.ext_getElem?
        intro j
        by_cases hj : j < d.s.length
        · rw [bw11_at hj, List.getElem?_replicate_of_lt hj]
        · rw [List.getElem?_eq_none (by simp [bw11]; omega), List.getElem?_eq_none (by simpa using hj)]
      rw [e]
      simpa using this)
    have HB0 : Hid (Below g w2 (w2.alloc (.cells (Array.replicate d.s.length (Value.bool false)) 4))) := Lib.hid ((Below.refl _ _).alloc (by omega) _)
    have hwg : w.heap.size ≤ g := by rw [← hg]; exact HBF.out.size
    have hs0 : g + 1 ≤ (w2.alloc (.cells (Array.replicate d.s.length (Value.bool false)) 4)).heap.size := by rw [size1]; omega
    have HI0 : Hid (In11 (e11 d) d.s.length r k 0 0 (fun _ => false)) := Lib.hid (In11.start hrk)
    clear hg hmk d0 d1 d2 d3 d4
    generalize (w2.alloc (.cells (Array.replicate d.s.length (Value.bool false)) 4)) = w3 at HR0 HB0 hs0 ⊢
    go_loopw [9] (fun iv wr => ∃ (T : Nat) (P : Nat → Bool), T ≤ d.s.length + 1 ∧ iv = .int .i64 T ∧ Hid (In11 (e11 d) d.s.length r k T 0 P) ∧ Hid ((wr).ownsRow w.heap.size 4 1 (.slice (some ⟨g, 0, none⟩) d.s.length d.s.length) d.s.length (bw11 d.s.length P)) ∧ Hid (Below g w2 wr) ∧ g + 1 ≤ wr.heap.size) (fun iv _ => d.s.length + 1 - (intOf iv).toNat)
    case atStart => exact ⟨0, _, by omega, rfl, HI0, HR0, HB0, hs0⟩
    case round =>
      clear HI0 HR0 HB0 hs0
      obtain ⟨T, P, hT, rfl, HI, HR, HB, hs⟩ := hrel
      rename World => wr
      have SQ := Lib.hid (S2.out.call (by rw [HG2.out]; exact HB.out))
      obtain ⟨-, ⟨d0, d1, d2, d3, d4⟩, -⟩ := SQ.out
      dsimp only at d1 d2 d3
      by_cases h1 : T ≤ d.s.length
      · go_wp2_with fail
        clear SQ d0 d1 d2 d3 d4
        go_loopw [10] (fun iv wq => ∃ (m : Nat) (P : Nat → Bool), m ≤ d.s.length ∧ iv = .int .i64 m ∧ Hid (In11 (e11 d) d.s.length r k T m P) ∧ Hid ((wq).ownsRow w.heap.size 4 1 (.slice (some ⟨g, 0, none⟩) d.s.length d.s.length) d.s.length (bw11 d.s.length P)) ∧ Hid (Below g w2 wq) ∧ g + 1 ≤ wq.heap.size) (fun iv _ => d.s.length - (intOf iv).toNat)
        case atStart => exact ⟨0, P, by omega, rfl, HI, HR, HB, hs⟩
        case round =>
          clear HI HR HB hs P
          obtain ⟨m, P, hm, rfl, HI, HR, HB, hs⟩ := hrel
          rename World => wr
          have SQ := Lib.hid (S2.out.call (by rw [HG2.out]; exact HB.out))
          obtain ⟨-, ⟨d0, d1, d2, d3, d4⟩, -⟩ := SQ.out
          dsimp only at d1 d2 d3
          by_cases h2 : m < d.s.length
          · have c0 := HR.out.cellAt m (by omega)
            have f0 := HR.out.frozenAt m
            rw [bw11_at h2] at c0
            cases hpm : P m with
            | true =>
              rw [hpm] at c0
              have HI2 := Lib.hid (in11_own hk3 h2 HI.out (v := true) (by rw [hpm]; rfl))
              have HR2 : Hid ((wr.setCell ⟨g, m, none⟩ (.bool true)).ownsRow w.heap.size 4 1 (.slice (some ⟨g, 0, none⟩) d.s.length d.s.length) d.s.length (bw11 d.s.length (up11 P m true))) := Lib.hid (by
                have h := (HR.out.stored m (.bool true)).1
                rwa [bw11_set] at h)
              have HB2 : Hid (Below g w2 (wr.setCell ⟨g, m, none⟩ (.bool true))) := Lib.hid (HB.out.setCell (p := ⟨g, m, none⟩) (Nat.le_refl _) _)
              have hs2 : g + 1 ≤ (wr.setCell ⟨g, m, none⟩ (.bool true)).heap.size := by simp; omega
              clear hpm
              go_wp2_with fail
              generalize wr.setCell ⟨g, m, none⟩ (.bool true) = w6 at HR2 HB2 hs2 ⊢
              clear c0 f0 SQ d0 d1 d2 d3 d4 HR HB hs
              go_loopw [11] (fun iv wq => ∃ (i : Nat) (P : Nat → Bool), i ≤ d.s.length ∧ iv = .int .i64 i ∧ Hid (In11 (e11 d) d.s.length r k T m P) ∧ Hid (e11 d k m = true → P m = true) ∧ Hid (∀ i', i' < i → P i' = true → e11 d i' m = true → P m = true) ∧ Hid ((wq).ownsRow w.heap.size 4 1 (.slice (some ⟨g, 0, none⟩) d.s.length d.s.length) d.s.length (bw11 d.s.length P)) ∧ Hid (Below g w2 wq) ∧ g + 1 ≤ wq.heap.size) (fun iv _ => d.s.length - (intOf iv).toNat)
              case atStart => exact ⟨0, _, by omega, rfl, Lib.hid HI2.out.1, Lib.hid HI2.out.2, Lib.hid fun i' hi' => absurd hi' (by omega), HR2, HB2, hs2⟩
              case round =>
                clear HI2 HR2 HB2 hs2
                obtain ⟨i, P, hi, rfl, HI, HC, HQ, HR, HB, hs⟩ := hrel
                rename World => wr
                have SQ := Lib.hid (S2.out.call (by rw [HG2.out]; exact HB.out))
                obtain ⟨-, ⟨d0, d1, d2, d3, d4⟩, -⟩ := SQ.out
                dsimp only at d1 d2 d3
                by_cases h3 : i < d.s.length
                · have c0 := HR.out.cellAt m (by omega)
                  have c1 := HR.out.cellAt i (by omega)
                  have f0 := HR.out.frozenAt m
                  rw [bw11_at h2] at c0
                  rw [bw11_at h3] at c1
                  cases hpm : P m with
                  | true =>
                    rw [hpm] at c0
                    have HST := Lib.hid (in11_pass hk3 h3 h2 HI.out HC.out HQ.out (v := true) (by rw [hpm]; rfl))
                    have HR2 : Hid ((wr.setCell ⟨g, m, none⟩ (.bool true)).ownsRow w.heap.size 4 1 (.slice (some ⟨g, 0, none⟩) d.s.length d.s.length) d.s.length (bw11 d.s.length (up11 P m true))) := Lib.hid (by
                      have h := (HR.out.stored m (.bool true)).1
                      rwa [bw11_set] at h)
                    have HB2 : Hid (Below g w2 (wr.setCell ⟨g, m, none⟩ (.bool true))) := Lib.hid (HB.out.setCell (p := ⟨g, m, none⟩) (Nat.le_refl _) _)
                    have hs2 : g + 1 ≤ (wr.setCell ⟨g, m, none⟩ (.bool true)).heap.size := by simp; omega
                    clear hpm
                    go_wp2_with fail
                    go_roundw
                    case rel => exact ⟨i + 1, _, by omega, by go_num, Lib.hid HST.out.1, Lib.hid HST.out.2.1, Lib.hid HST.out.2.2, HR2, HB2, hs2⟩
                    case measure => simp [intOf]; omega
                  | false =>
                    rw [hpm] at c0
                    cases hpi : P i with
                    | false =>
                      rw [hpi] at c1
                      have HST := Lib.hid (in11_pass hk3 h3 h2 HI.out HC.out HQ.out (v := false) (by rw [hpm, hpi]; rfl))
                      have HR2 : Hid ((wr.setCell ⟨g, m, none⟩ (.bool false)).ownsRow w.heap.size 4 1 (.slice (some ⟨g, 0, none⟩) d.s.length d.s.length) d.s.length (bw11 d.s.length (up11 P m false))) := Lib.hid (by
                        have h := (HR.out.stored m (.bool false)).1
                        rwa [bw11_set] at h)
                      have HB2 : Hid (Below g w2 (wr.setCell ⟨g, m, none⟩ (.bool false))) := Lib.hid (HB.out.setCell (p := ⟨g, m, none⟩) (Nat.le_refl _) _)
                      have hs2 : g + 1 ≤ (wr.setCell ⟨g, m, none⟩ (.bool false)).heap.size := by simp; omega
                      clear hpm hpi
                      go_wp2_with fail
                      go_roundw
                      case rel => exact ⟨i + 1, _, by omega, by go_num, Lib.hid HST.out.1, Lib.hid HST.out.2.1, Lib.hid HST.out.2.2, HR2, HB2, hs2⟩
                      case measure => simp [intOf]; omega
                    | true =>
                      rw [hpi] at c1
                      obtain ⟨ad', hA', hat, hok⟩ := SQ.out.2.2.1.2.2.1.at_ (i := i) (by rw [HZL.out]; exact h3)
                      obtain rfl := Option.some.inj hA'
                      have hme := SQ.out.2.2.1.zat (i := i) (by rw [HZL.out]; exact h3) h3
                      obtain ⟨zz, hzz⟩ : ∃ zz, Z[i]'(by rw [HZL.out]; exact h3) = zz := ⟨_, rfl⟩
                      dsimp only at hat hok hme
                      rw [hzz] at hat hok hme
                      obtain ⟨⟨XA, xc, XB, xd, XD, xk, xe⟩, h, L⟩ := zz
                      obtain ⟨hH, hRi, hxk⟩ := hok
                      dsimp only at hH hRi hxk
                      obtain ⟨g0, g1, g2, g3, g4, g5, g6, g7⟩ := hat
                      dsimp only at g0 g1 g2 g3 g4 g5 g6 g7
                      have HEV : Hid (cl11 L (m : Int) = e11 d i m) := Lib.hid (by rw [e11, co11, List.getElem?_eq_getElem h3, hme]; rfl)
                      have HCL := r11calls_v ⟨XA, xc, XB, xd, XD, xk, xe⟩ h L (m : Int) wr hRi hxk
                      rw [HEV.out] at HCL
                      unfold mv at HCL
                      dsimp only at HCL
                      have HCL := Lib.hid HCL
                      obtain ⟨b, hbv⟩ : ∃ b, e11 d i m = b := ⟨_, rfl⟩
                      have HBV := Lib.hid hbv
                      clear hzz hme hH hRi hxk hbv hA'
                      have HST := Lib.hid (in11_pass hk3 h3 h2 HI.out HC.out HQ.out (v := b) (by rw [hpm, hpi, HBV.out]; rfl))
                      rw [HBV.out] at HCL
                      clear hpm hpi
                      go_wp2_with fail
                      refine HCL.out.mono ?_
                      rintro r' w5 ⟨rfl, hb5⟩
                      have HR5 := Lib.hid (own_below HR.out hb5 (Nat.le_refl _))
                      have HB5 : Hid (Below g w2 w5) := Lib.hid (HB.out.trans (hb5.mono (by omega)))
                      have hs5 := Nat.le_trans hs hb5.size
                      have f5 := HR5.out.frozenAt m
                      have x5 := HR5.out.cellAt m (by omega)
                      rw [bw11_at h2] at x5
                      clear HCL hb5 SQ d0 d1 d2 d3 d4 c0 c1 f0
                      clear g0 g1 g2 g3 g4 g5 g6 g7
                      have HR2 : Hid ((w5.setCell ⟨g, m, none⟩ (.bool b)).ownsRow w.heap.size 4 1 (.slice (some ⟨g, 0, none⟩) d.s.length d.s.length) d.s.length (bw11 d.s.length (up11 P m b))) := Lib.hid (by
                        have h := (HR5.out.stored m (.bool b)).1
                        rwa [bw11_set] at h)
                      have HB2 : Hid (Below g w2 (w5.setCell ⟨g, m, none⟩ (.bool b))) := Lib.hid (HB5.out.setCell (p := ⟨g, m, none⟩) (Nat.le_refl _) _)
                      have hs2 : g + 1 ≤ (w5.setCell ⟨g, m, none⟩ (.bool b)).heap.size := by simp; omega
                      go_wp2_with fail
                      go_roundw
                      case rel => exact ⟨i + 1, _, by omega, by go_num, Lib.hid HST.out.1, Lib.hid HST.out.2.1, Lib.hid HST.out.2.2, HR2, HB2, hs2⟩
                      case measure => simp [intOf]; omega
                · obtain rfl : i = d.s.length := by omega
                  have HI2 := Lib.hid (in11_done hrk h2 HI.out HC.out HQ.out)
                  clear SQ
                  go_wp2_with fail
                  go_roundw
                  case rel => exact ⟨m + 1, P, by omega, by go_num, HI2, HR, HB, hs⟩
                  case measure => simp [intOf]; omega
            | false =>
              rw [hpm] at c0
              obtain ⟨ad', hA', hat, hok⟩ := SQ.out.2.2.1.2.2.1.at_ (i := k) (by rw [HZL.out]; exact hk3)
              obtain rfl := Option.some.inj hA'
              have hme := SQ.out.2.2.1.zat (i := k) (by rw [HZL.out]; exact hk3) hk3
              obtain ⟨zz, hzz⟩ : ∃ zz, Z[k]'(by rw [HZL.out]; exact hk3) = zz := ⟨_, rfl⟩
              dsimp only at hat hok hme
              rw [hzz] at hat hok hme
              obtain ⟨⟨XA, xc, XB, xd, XD, xk, xe⟩, h, L⟩ := zz
              obtain ⟨hH, hRi, hxk⟩ := hok
              dsimp only at hH hRi hxk
              obtain ⟨g0, g1, g2, g3, g4, g5, g6, g7⟩ := hat
              dsimp only at g0 g1 g2 g3 g4 g5 g6 g7
              have HEV : Hid (cl11 L (m : Int) = e11 d k m) := Lib.hid (by rw [e11, co11, List.getElem?_eq_getElem hk3, hme]; rfl)
              have HCL := r11calls_v ⟨XA, xc, XB, xd, XD, xk, xe⟩ h L (m : Int) wr hRi hxk
              rw [HEV.out] at HCL
              unfold mv at HCL
              dsimp only at HCL
              have HCL := Lib.hid HCL
              obtain ⟨b, hbv⟩ : ∃ b, e11 d k m = b := ⟨_, rfl⟩
              have HBV := Lib.hid hbv
              clear hzz hme hH hRi hxk hbv hA'
              have HI2 := Lib.hid (in11_own hk3 h2 HI.out (v := b) (by rw [hpm, HBV.out]; rfl))
              rw [HBV.out] at HCL
              clear hpm
              go_wp2_with fail
              refine HCL.out.mono ?_
              rintro r' w5 ⟨rfl, hb5⟩
              have HR5 := Lib.hid (own_below HR.out hb5 (Nat.le_refl _))
              have HB5 : Hid (Below g w2 w5) := Lib.hid (HB.out.trans (hb5.mono (by omega)))
              have hs5 := Nat.le_trans hs hb5.size
              clear HCL hb5 SQ d0 d1 d2 d3 d4 c0 f0
              clear g0 g1 g2 g3 g4 g5 g6 g7
              have f5 := HR5.out.frozenAt m
              have x5 := HR5.out.cellAt m (by omega)
              rw [bw11_at h2] at x5
              have SQ := Lib.hid (S2.out.call (by rw [HG2.out]; exact HB5.out))
              obtain ⟨-, ⟨d0, d1, d2, d3, d4⟩, -⟩ := SQ.out
              dsimp only at d1 d2 d3
              have HR2 : Hid ((w5.setCell ⟨g, m, none⟩ (.bool b)).ownsRow w.heap.size 4 1 (.slice (some ⟨g, 0, none⟩) d.s.length d.s.length) d.s.length (bw11 d.s.length (up11 P m b))) := Lib.hid (by
                have h := (HR5.out.stored m (.bool b)).1
                rwa [bw11_set] at h)
              have HB2 : Hid (Below g w2 (w5.setCell ⟨g, m, none⟩ (.bool b))) := Lib.hid (HB5.out.setCell (p := ⟨g, m, none⟩) (Nat.le_refl _) _)
              have hs2 : g + 1 ≤ (w5.setCell ⟨g, m, none⟩ (.bool b)).heap.size := by simp; omega
              go_wp2_with fail
              generalize w5.setCell ⟨g, m, none⟩ (.bool b) = w6 at HR2 HB2 hs2 ⊢
              clear f5 x5 SQ d0 d1 d2 d3 d4 HR HB hs HR5 HB5 hs5
              go_loopw [11] (fun iv wq => ∃ (i : Nat) (P : Nat → Bool), i ≤ d.s.length ∧ iv = .int .i64 i ∧ Hid (In11 (e11 d) d.s.length r k T m P) ∧ Hid (e11 d k m = true → P m = true) ∧ Hid (∀ i', i' < i → P i' = true → e11 d i' m = true → P m = true) ∧ Hid ((wq).ownsRow w.heap.size 4 1 (.slice (some ⟨g, 0, none⟩) d.s.length d.s.length) d.s.length (bw11 d.s.length P)) ∧ Hid (Below g w2 wq) ∧ g + 1 ≤ wq.heap.size) (fun iv _ => d.s.length - (intOf iv).toNat)
              case atStart => exact ⟨0, _, by omega, rfl, Lib.hid HI2.out.1, Lib.hid HI2.out.2, Lib.hid fun i' hi' => absurd hi' (by omega), HR2, HB2, hs2⟩
              case round =>
                clear HI2 HR2 HB2 hs2
                obtain ⟨i, P, hi, rfl, HI, HC, HQ, HR, HB, hs⟩ := hrel
                rename World => wr
                have SQ := Lib.hid (S2.out.call (by rw [HG2.out]; exact HB.out))
                obtain ⟨-, ⟨d0, d1, d2, d3, d4⟩, -⟩ := SQ.out
                dsimp only at d1 d2 d3
                by_cases h3 : i < d.s.length
                · have c0 := HR.out.cellAt m (by omega)
                  have c1 := HR.out.cellAt i (by omega)
                  have f0 := HR.out.frozenAt m
                  rw [bw11_at h2] at c0
                  rw [bw11_at h3] at c1
                  cases hpm : P m with
                  | true =>
                    rw [hpm] at c0
                    have HST := Lib.hid (in11_pass hk3 h3 h2 HI.out HC.out HQ.out (v := true) (by rw [hpm]; rfl))
                    have HR2 : Hid ((wr.setCell ⟨g, m, none⟩ (.bool true)).ownsRow w.heap.size 4 1 (.slice (some ⟨g, 0, none⟩) d.s.length d.s.length) d.s.length (bw11 d.s.length (up11 P m true))) := Lib.hid (by
                      have h := (HR.out.stored m (.bool true)).1
                      rwa [bw11_set] at h)
                    have HB2 : Hid (Below g w2 (wr.setCell ⟨g, m, none⟩ (.bool true))) := Lib.hid (HB.out.setCell (p := ⟨g, m, none⟩) (Nat.le_refl _) _)
                    have hs2 : g + 1 ≤ (wr.setCell ⟨g, m, none⟩ (.bool true)).heap.size := by simp; omega
                    clear hpm
                    go_wp2_with fail
                    go_roundw
                    case rel => exact ⟨i + 1, _, by omega, by go_num, Lib.hid HST.out.1, Lib.hid HST.out.2.1, Lib.hid HST.out.2.2, HR2, HB2, hs2⟩
                    case measure => simp [intOf]; omega
                  | false =>
                    rw [hpm] at c0
                    cases hpi : P i with
                    | false =>
                      rw [hpi] at c1
                      have HST := Lib.hid (in11_pass hk3 h3 h2 HI.out HC.out HQ.out (v := false) (by rw [hpm, hpi]; rfl))
                      have HR2 : Hid ((wr.setCell ⟨g, m, none⟩ (.bool false)).ownsRow w.heap.size 4 1 (.slice (some ⟨g, 0, none⟩) d.s.length d.s.length) d.s.length (bw11 d.s.length (up11 P m false))) := Lib.hid (by
                        have h := (HR.out.stored m (.bool false)).1
                        rwa [bw11_set] at h)
                      have HB2 : Hid (Below g w2 (wr.setCell ⟨g, m, none⟩ (.bool false))) := Lib.hid (HB.out.setCell (p := ⟨g, m, none⟩) (Nat.le_refl _) _)
                      have hs2 : g + 1 ≤ (wr.setCell ⟨g, m, none⟩ (.bool false)).heap.size := by simp; omega
                      clear hpm hpi
                      go_wp2_with fail
                      go_roundw
                      case rel => exact ⟨i + 1, _, by omega, by go_num, Lib.hid HST.out.1, Lib.hid HST.out.2.1, Lib.hid HST.out.2.2, HR2, HB2, hs2⟩
                      case measure => simp [intOf]; omega
                    | true =>
                      rw [hpi] at c1
                      obtain ⟨ad', hA', hat, hok⟩ := SQ.out.2.2.1.2.2.1.at_ (i := i) (by rw [HZL.out]; exact h3)
                      obtain rfl := Option.some.inj hA'
                      have hme := SQ.out.2.2.1.zat (i := i) (by rw [HZL.out]; exact h3) h3
                      obtain ⟨zz, hzz⟩ : ∃ zz, Z[i]'(by rw [HZL.out]; exact h3) = zz := ⟨_, rfl⟩
                      dsimp only at hat hok hme
                      rw [hzz] at hat hok hme
                      obtain ⟨⟨XA, xc, XB, xd, XD, xk, xe⟩, h, L⟩ := zz
                      obtain ⟨hH, hRi, hxk⟩ := hok
                      dsimp only at hH hRi hxk
                      obtain ⟨g0, g1, g2, g3, g4, g5, g6, g7⟩ := hat
                      dsimp only at g0 g1 g2 g3 g4 g5 g6 g7
                      have HEV : Hid (cl11 L (m : Int) = e11 d i m) := Lib.hid (by rw [e11, co11, List.getElem?_eq_getElem h3, hme]; rfl)
                      have HCL := r11calls_v ⟨XA, xc, XB, xd, XD, xk, xe⟩ h L (m : Int) wr hRi hxk
                      rw [HEV.out] at HCL
                      unfold mv at HCL
                      dsimp only at HCL
                      have HCL := Lib.hid HCL
                      obtain ⟨b, hbv⟩ : ∃ b, e11 d i m = b := ⟨_, rfl⟩
                      have HBV := Lib.hid hbv
                      clear hzz hme hH hRi hxk hbv hA'
                      have HST := Lib.hid (in11_pass hk3 h3 h2 HI.out HC.out HQ.out (v := b) (by rw [hpm, hpi, HBV.out]; rfl))
                      rw [HBV.out] at HCL
                      clear hpm hpi
                      go_wp2_with fail
                      refine HCL.out.mono ?_
                      rintro r' w5 ⟨rfl, hb5⟩
                      have HR5 := Lib.hid (own_below HR.out hb5 (Nat.le_refl _))
                      have HB5 : Hid (Below g w2 w5) := Lib.hid (HB.out.trans (hb5.mono (by omega)))
                      have hs5 := Nat.le_trans hs hb5.size
                      have f5 := HR5.out.frozenAt m
                      have x5 := HR5.out.cellAt m (by omega)
                      rw [bw11_at h2] at x5
                      clear HCL hb5 SQ d0 d1 d2 d3 d4 c0 c1 f0
                      clear g0 g1 g2 g3 g4 g5 g6 g7
                      have HR2 : Hid ((w5.setCell ⟨g, m, none⟩ (.bool b)).ownsRow w.heap.size 4 1 (.slice (some ⟨g, 0, none⟩) d.s.length d.s.length) d.s.length (bw11 d.s.length (up11 P m b))) := Lib.hid (by
                        have h := (HR5.out.stored m (.bool b)).1
                        rwa [bw11_set] at h)
                      have HB2 : Hid (Below g w2 (w5.setCell ⟨g, m, none⟩ (.bool b))) := Lib.hid (HB5.out.setCell (p := ⟨g, m, none⟩) (Nat.le_refl _) _)
                      have hs2 : g + 1 ≤ (w5.setCell ⟨g, m, none⟩ (.bool b)).heap.size := by simp; omega
                      go_wp2_with fail
                      go_roundw
                      case rel => exact ⟨i + 1, _, by omega, by go_num, Lib.hid HST.out.1, Lib.hid HST.out.2.1, Lib.hid HST.out.2.2, HR2, HB2, hs2⟩
                      case measure => simp [intOf]; omega
                · obtain rfl : i = d.s.length := by omega
                  have HI2 := Lib.hid (in11_done hrk h2 HI.out HC.out HQ.out)
                  clear SQ
                  go_wp2_with fail
                  go_roundw
                  case rel => exact ⟨m + 1, P, by omega, by go_num, HI2, HR, HB, hs⟩
                  case measure => simp [intOf]; omega
          · obtain rfl : m = d.s.length := by omega
            have HI2 := Lib.hid HI.out.turn
            clear SQ
            go_wp2_with fail
            go_roundw
            case rel => exact ⟨T + 1, P, by omega, by go_num, HI2, HR, HB, hs⟩
            case measure => simp [intOf]; omega
      · have HTQ : Hid (d.s.length + 1 ≤ T) := Lib.hid (by omega)
        have HPL : Hid (∀ j, j < d.s.length → P j = ld11 (e11 d) d.s.length d.s.length k j) := Lib.hid fun j hj => by
          rw [Bool.eq_iff_iff]
          constructor
          · intro h
            exact le11_ld hrk (hrb k hk3) (HI.out.so j h)
          · intro h
            exact HI.out.t0 j (ld11_le hk3 hj h) (by have := hrb k hk3; have := HTQ.out; omega)
        have HTE : Hid (le11 d k = (ns11 (lk11 d k), 0)) := Lib.hid (le11_lk HRO.out hk3)
        have HSB := Lib.hid (HBF.out.trans (HB.out.mono hwg))
        clear SQ
        go_wp2_with fail
        go_loopw [12, 13] (fun ov iv wq => ∃ (i : Nat) (A' : Option Addr) (c' n' : Nat), i ≤ d.s.length ∧ iv = .int .i64 i ∧ ov = .slice A' n' c' ∧ Hid (wq.ownsRow w.heap.size 3 1 (.slice A' n' c') n' (ci9 (ns11 ((List.range i).filter P)))) ∧ n' ≤ i ∧ Hid (Below w.heap.size w wq) ∧ Hid ((wq).ownsRow w.heap.size 4 1 (.slice (some ⟨g, 0, none⟩) d.s.length d.s.length) d.s.length (bw11 d.s.length P))) (fun _ iv _ => d.s.length - (intOf iv).toNat)
        case atStart => exact ⟨0, none, 0, 0, by omega, rfl, rfl, Lib.hid (World.ownsRow_nil _ _ _ _), by omega, HSB, HR⟩
        case round =>
          clear HR HSB
          obtain ⟨i, A', c', n', hi, rfl, rfl, HOW, hn', HBW, HR⟩ := hrel
          rename World => wq
          by_cases h2 : i < d.s.length
          · have c0 := HR.out.cellAt i (by omega)
            rw [bw11_at h2] at c0
            have hfn : (List.range (i + 1)).filter P = (List.range i).filter P ++ if P i = true then [i] else [] := by
              rw [List.range_succ, List.filter_append]
              cases hp : P i <;> simp [hp]
            cases hp : P i with
            | false =>
              rw [hp] at c0 hfn
              have HF2 : Hid ((List.range (i + 1)).filter P = (List.range i).filter P) := Lib.hid (by rw [hfn]; simp)
              clear hp hfn
              go_wp2_with fail
              go_roundw
              case rel => exact ⟨i + 1, A', c', n', by omega, by go_num, rfl, by rw [HF2.out]; exact HOW, by omega, HBW, HR⟩
              case measure => simp [intOf]; omega
            | true =>
              rw [hp] at c0 hfn
              have HF2 : Hid (ns11 ((List.range (i + 1)).filter P) = ns11 ((List.range i).filter P) ++ [(i : Int)]) := Lib.hid (by rw [hfn]; simp [ns11])
              clear hp hfn
              have HO1 := Lib.hid (HOW.out.alloc (.cells #[.int .i64 (i : Int)] 3))
              have hc1 : (wq.alloc (.cells #[.int .i64 (i : Int)] 3)).cell? ((⟨wq.heap.size, 0, none⟩ : Addr).add 0) = some (.int .i64 (i : Int)) := by simp [go_sem, Addr.add]
              have hsz := HBW.out.size
              have HR1 := Lib.hid (HR.out.alloc (.cells #[.int .i64 (i : Int)] 3))
              go_wp2_with (at_builtin; refine wpList_append_n1 rfl (.tmp 104) (.tmp 106) 28 Try.underlying28 rfl w.heap.size _ n' _ rfl HO1.out _ _ rfl hc1 (by omega) (by rw [size1]; omega) ?_; intro g9 c9 w9 ho9 hg9 _; have HO9 := Lib.hid ho9; have HG9 := Lib.hid hg9; clear ho9 hg9)
              have HO2 : Hid (w9.ownsRow w.heap.size 3 1 (.slice (some ⟨g9, 0, none⟩) (n' + 1) c9) (n' + 1) (ci9 (ns11 ((List.range (i + 1)).filter P)))) := Lib.hid (by rw [HF2.out]; exact HO9.out)
              have HB9 : Hid (Below w.heap.size w w9) := Lib.hid ((HBW.out.alloc hsz _).trans ((Below.refl _ _).grown HG9.out (by rw [size1]; omega) fun g hg' => (HO1.out.lt g hg').1))
              have HR9 := Lib.hid (own_grown HR1.out HO1.out (by decide) HG9.out)
              go_roundw
              case rel => exact ⟨i + 1, _, c9, n' + 1, by omega, by go_num, rfl, HO2, by omega, HB9, HR9⟩
              case measure => simp [intOf]; omega
          · obtain rfl : i = d.s.length := by omega
            have HFE : Hid (ns11 ((List.range d.s.length).filter P) = (le11 d k).1) := Lib.hid (by
              rw [HTE.out]
              dsimp only
              rw [lk11]
              exact congrArg ns11 (List.filter_congr fun j hj => HPL.out j (List.mem_range.1 hj)))
            have HOE : Hid (wq.ownsRow w.heap.size 3 1 (.slice A' n' c') n' (ci9 (le11 d k).1)) := Lib.hid (by rw [← HFE.out]; exact HOW.out)
            have hne : n' = (le11 d k).1.length := (Rn.of_own HOE.out).2
            have HE2 : Hid ((le11 d k).2 = 0) := Lib.hid (by rw [HTE.out])
            have HNE := Lib.hid hne
            clear hne
            go_wp2_with fail
            go_ret2
            exact ⟨A', c', by rw [← HNE.out, HE2.out]; rfl, by rw [← HNE.out]; exact HOE.out, HBW.out⟩
  · obtain ⟨E, hE⟩ : ∃ E, (ro11 d).2 = E := ⟨_, rfl⟩
    have HE := Lib.hid (Ns11.err (w := w) (w' := w2) (T := le11 d k) (e := E) (by rw [le11, if_neg h0, hE]) S2.out.1)
    rw [hE] at h0 ⊢
    have hb0 : (E != 0) = true := by simpa using h0
    clear S2 hE
    go_wp2_with fail
    go_ret2
    exact HE.out
end Go.Proofs.Ytfbabbddiplgkaa
