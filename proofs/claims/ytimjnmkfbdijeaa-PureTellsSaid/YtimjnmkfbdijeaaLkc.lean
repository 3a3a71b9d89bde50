/-
  Km, Kn, Ko, Kp, Kq: in one text.
-/
import Derived.Test.YtimjnmkfbdijeaaLje
import Derived.Test.YtimjnmkfbdijeaaLkb
import Derived.Test.YtimjnmkfbdijeaaLeb
import Derived.Test.YtimjnmkfbdijeaaFrb
import Derived.Test.YtimjnmkfbdijeaaKk
import Derived.Test.YtimjnmkfbdijeaaRcp
namespace Go.Proofs.Ytimjnmkfbdijeaa
open Go.RowKit
set_option maxRecDepth 100000
set_option linter.unusedSimpArgs false
set_option linter.unusedVariables false

theorem add013 (g i : Nat) : (⟨g, 0, none⟩ : Addr).add i = ⟨g, i, none⟩ := by
  unfold Addr.add
  split
  · rename_i h0; simp [h0]
  · simp
section
variable {w : World} {lo hi g : Nat}
theorem sp13 (w : World) (g j : Nat) (v : Value) : Sp g (g + 1) w (w.setCell ⟨g, j, none⟩ v) := (Sp.refl g (g + 1) w).set (Nat.le_refl _) (by omega) _ _
theorem Rs.nt13 {e s n t k : Nat} {A : Option Addr} (hs : Rs w lo hi e s A n) (hg : Bk w g t k) (hne : e ≠ t) : ∃ l2, Rs w l2 (l2 + 1) e s A n ∧ (l2 + 1 ≤ g ∨ g + 1 ≤ l2) := by
  rcases hs with h0 | ⟨g2, cur, a1, a2, a3, a4, a5⟩
  · exact ⟨g + 1, .inl h0, .inr (Nat.le_refl _)⟩
  · have hn := bk_ne (⟨cur, a4, rfl⟩ : Bk w g2 e cur.size) hg hne
    exact ⟨g2, .inr ⟨g2, cur, a1, Nat.le_refl _, by omega, a4, a5⟩, by omega⟩
theorem ok13 {z : Me} {t kk : Nat} (h : z.ok w) (ho : Owz w lo hi z) (hg : Bk w g t kk) (h1 : 5 ≠ t) (h2 : 57 ≠ t) (j : Nat) (v : Value) : z.ok (w.setCell ⟨g, j, none⟩ v) := by
  obtain ⟨⟨k1, k2, k3⟩, k4, k5⟩ := h
  obtain ⟨o1, o2, o3⟩ := ho
  obtain ⟨m1, s1, e1⟩ := o1.nt13 hg h1
  obtain ⟨m2, s2, e2⟩ := o2.nt13 hg h1
  obtain ⟨m3, s3, e3⟩ := o3.nt13 hg h2
  exact ⟨⟨k1.apart s1 (sp13 w g j v) e1, k2.apart s2 (sp13 w g j v) e2, k3⟩, k4.apart (by rw [k5]; exact s3) (sp13 w g j v) e3, k5⟩
/-- A cell of the method j is written over. -/
theorem hm13 {j f kk : Nat} {v : Value} {z z' : Me} {y : Ma} {d : Md} (hq : Hq w y d) (ho : Ow w lo hi y d) (hA : y.A = some ⟨g, 0, none⟩) (hg : Bk w g 52 kk) (hf : f < 8) (hz : y.Z[j]? = some z)
    (hat : At8 (w.setCell ⟨g, j * 8 + f, none⟩ v) ⟨g, j * 8, none⟩ z') (hok : z'.ok (w.setCell ⟨g, j * 8 + f, none⟩ v)) (hoz : Owz w lo hi z') :
    Hq (w.setCell ⟨g, j * 8 + f, none⟩ v) { y with Z := y.Z.set j z' } { d with s := d.s.set j (ze z') } ∧ Ow (w.setCell ⟨g, j * 8 + f, none⟩ v) lo hi { y with Z := y.Z.set j z' } { d with s := d.s.set j (ze z') } := by
  have hp := sp13 w g (j * 8 + f) v
  obtain ⟨l1, r1, n1⟩ := ho.1.nt13 hg (by decide)
  obtain ⟨l2, r2, n2⟩ := ho.2.1.nt13 hg (by decide)
  have ho' := ho.set g (j * 8 + f) v
  have hjz := (List.getElem?_eq_some_iff.1 hz).1
  refine ⟨⟨hq.1.apart r1 hp n1, hq.2.1.apart r2 hp n2, ⟨fun u hu => ?_, ?_, hq.2.2.1.2.2.1, ?_⟩, ?_, hq.2.2.2.2⟩, ⟨ho'.1, ho'.2.1, ?_, fun u hu => ?_⟩⟩
  · rcases List.mem_or_eq_of_mem_set hu with hu | rfl
    · exact ok13 (hq.2.2.1.1 u hu) (ho.2.2.2 u hu) hg (by decide) (by decide) _ _
    · exact hok
  · show (y.Z.set j z').length ≤ _
    rw [List.length_set]
    exact hq.2.2.1.2.1
  · rcases hq.2.2.1.2.2.2 with ⟨hn, -⟩ | ⟨ad, e0, hc⟩
    · rw [hA] at hn; cases hn
    · refine .inr ⟨ad, e0, fun i u hu => ?_⟩
      rw [hA] at e0
      injection e0 with e0
      subst e0
      rw [add013]
      dsimp only at hu
      rw [List.getElem?_set] at hu
      by_cases hij : j = i
      · subst hij
        rw [if_pos rfl, if_pos hjz] at hu
        injection hu with hu
        subst hu
        exact hat
      · rw [if_neg hij] at hu
        have h8 := hc i u hu
        rw [add013] at h8
        exact h8.other (.inr (by dsimp only; omega)) _ ⟨_, _, rfl⟩
  · dsimp only
    rw [List.map_set, hq.2.2.2.1]
  · dsimp only
    rw [List.length_set]
    exact ho'.2.2.1
  · rcases List.mem_or_eq_of_mem_set hu with hu | rfl
    · exact ho'.2.2.2 u hu
    · exact hoz.set _ _ _
theorem c8n13 {p q : Nat} {v u : Value} (h : q ≠ p) (hu : w.cell? ⟨g, q, none⟩ = some u) : (w.setCell ⟨g, p, none⟩ v).cell? ⟨g, q, none⟩ = some u := by
  rw [World.cell?_setCell_other _ _ _ _ (fun e => h (by injection e with _ e2; exact e2.symm))]
  exact hu
theorem at8_q13 {p : Nat} {z : Me} (h : At8 w ⟨g, p, none⟩ z) (v : Bool) : At8 (w.setCell ⟨g, p + 3, none⟩ (.bool v)) ⟨g, p, none⟩ { z with m := { z.m with q := v } } := by
  obtain ⟨h1, h2, h3, h4, h5, h6, h7, h8⟩ := h
  exact ⟨c8n13 (by omega) h1, c8n13 (by dsimp only; omega) h2, c8n13 (by dsimp only; omega) h3, World.cell?_setCell_same _ _ _ h4, c8n13 (by dsimp only; omega) h5, c8n13 (by dsimp only; omega) h6, c8n13 (by dsimp only; omega) h7, c8n13 (by dsimp only; omega) h8⟩
theorem at8_k13 {p n e : Nat} {D : Option Addr} {L : List Ins} {z : Me} (h : At8 w ⟨g, p, none⟩ z) : At8 (w.setCell ⟨g, p + 7, none⟩ (.slice D n e)) ⟨g, p, none⟩ { x := { z.x with D := D, k := n, e := e }, m := z.m, k := L } := by
  obtain ⟨h1, h2, h3, h4, h5, h6, h7, h8⟩ := h
  exact ⟨c8n13 (by omega) h1, c8n13 (by dsimp only; omega) h2, c8n13 (by dsimp only; omega) h3, c8n13 (by dsimp only; omega) h4, c8n13 (by dsimp only; omega) h5, c8n13 (by dsimp only; omega) h6, c8n13 (by dsimp only; omega) h7, World.cell?_setCell_same _ _ _ h8⟩
/-- The methods' row of a module of the call's own. -/
theorem rows13 {y : Ma} {d : Md} (hq : Hq w y d) (ho : Ow w lo hi y d) {j : Nat} (hj : j < d.s.length) : ∃ g kk z, y.A = some ⟨g, 0, none⟩ ∧ Bk w g 52 kk ∧ lo ≤ g ∧ g < hi ∧ y.Z[j]? = some z ∧ ze z = d.s[j] ∧ At8 w ⟨g, j * 8, none⟩ z ∧ z.ok w ∧ Owz w lo hi z ∧ ∀ i, w.frozen? ⟨g, i, none⟩ = false := by
  have hzl := hq.zlen
  rcases ho.2.2.1 with h0 | ⟨g, cur, hA, h1, h2, h3, h4⟩
  · omega
  · obtain ⟨ad, ha, hat, hok⟩ := hq.2.2.1.at_ (i := j) (by omega)
    have hme := hq.zat (i := j) (by omega) hj
    rw [hA] at ha
    injection ha with ha
    subst ha
    rw [add013] at hat
    exact ⟨g, cur.size, y.Z[j]'(by omega), hA, ⟨cur, h3, rfl⟩, h1, h2, List.getElem?_eq_getElem (by omega), hme.symm, hat, hok, ho.2.2.2 _ (List.getElem_mem _), fun i => frozen_of_row w g i _ _ h3⟩
/-- What the method j says is written over. -/
theorem hq13 {y : Ma} {d : Md} {z : Me} {j kk : Nat} (hq : Hq w y d) (ho : Ow w lo hi y d) (hA : y.A = some ⟨g, 0, none⟩) (hg : Bk w g 52 kk) (hz : y.Z[j]? = some z) (hat : At8 w ⟨g, j * 8, none⟩ z) (hok : z.ok w) (hoz : Owz w lo hi z) (v : Bool) :
    Hq (w.setCell ⟨g, j * 8 + 3, none⟩ (.bool v)) { y with Z := y.Z.set j { z with m := { z.m with q := v } } } { d with s := d.s.set j ({ z.m with q := v }, z.k) } ∧ Ow (w.setCell ⟨g, j * 8 + 3, none⟩ (.bool v)) lo hi { y with Z := y.Z.set j { z with m := { z.m with q := v } } } { d with s := d.s.set j ({ z.m with q := v }, z.k) } :=
  hm13 (z' := { z with m := { z.m with q := v } }) hq ho hA hg (by decide) hz (at8_q13 hat v) (ok13 (z := z) hok hoz hg (by decide) (by decide) _ _) hoz
end
end Go.Proofs.Ytimjnmkfbdijeaa
namespace Go.Proofs.Ytimjnmkfbdijeaa
open Go.RowKit
set_option maxRecDepth 100000
set_option linter.unusedSimpArgs false
set_option linter.unusedVariables false

set_option maxHeartbeats 4000000 in
theorem r13stores_v (y : Ma) (d : Md) (k : Int) (w : World) (hq : Hq w y d) (bs : d.s.length ≤ 1000) : Calls Try.prog 9 #[dv y d, .int .i64 k] w fun r w' => Bs13 w w' (so13T d k) r := by
  obtain ⟨G, gc, P, pc, AA, cc, Z⟩ := y
  have hzl := hq.zlen
  dsimp only at hzl
  obtain ⟨sn, hsn⟩ : ∃ sn, d.s.length = sn := ⟨_, rfl⟩
  have HSN := Lib.hid hsn
  rw [hsn] at bs
  have S0 := Lib.hid ((((Sx.start w).add (fQm ⟨G, gc, P, pc, AA, cc, Z⟩ d) hq).mkD ⟨G, gc, P, pc, AA, cc, Z⟩ d))
  have HZL := Lib.hid (hzl.trans hsn)
  obtain ⟨T, hT⟩ : ∃ T, so13T d k = T := ⟨_, rfl⟩
  have HT := Lib.hid hT
  rw [hT]
  obtain ⟨B, hB⟩ : ∃ B, w.heap.size = B := ⟨_, rfl⟩
  have HBB := Lib.hid hB
  rw [hB] at S0
  clear hq hT hzl hsn
  go_enter Try.func9, Try.ntmps9
  go_upto_region 1 with (fail)
  change Code.wp _ _ _ _ (w.alloc (dcel ⟨G, gc, P, pc, AA, cc, Z⟩ d))
  generalize w.alloc (dcel ⟨G, gc, P, pc, AA, cc, Z⟩ d) = w1 at S0 ⊢
  have S1 := S0
  clear S0 hB
  obtain ⟨-, ⟨d0, d1, d2, d3, d4⟩, -⟩ := S1.out
  dsimp only at d1 d2 d3
  rw [HSN.out] at d3
  by_cases hk0 : k < 0
  · have HE : Hid (T = (false, 2)) := Lib.hid (by rw [← HT.out, so13T, if_pos (.inl hk0)])
    go_wp2_with fail
    go_ret2
    exact ⟨by rw [HE.out]; rfl, S1.out.1⟩
  by_cases hks : (sn : Int) ≤ k
  · have HE : Hid (T = (false, 2)) := Lib.hid (by rw [← HT.out, so13T, if_pos (.inr (by rw [HSN.out]; exact hks))])
    go_wp2_with fail
    go_ret2
    exact ⟨by rw [HE.out]; rfl, S1.out.1⟩
  obtain ⟨k, rfl⟩ : ∃ k' : Nat, k = k' := ⟨k.toNat, by omega⟩
  have hks2 : k < sn := by omega
  obtain ⟨ad8, hA8, hat, hok⟩ := S1.out.2.2.1.2.2.1.at_ (i := k) (by rw [HZL.out]; exact hks2)
  have hme := S1.out.2.2.1.zat (i := k) (by rw [HZL.out]; exact hks2) (by rw [HSN.out]; exact hks2)
  dsimp only at hA8 hat hok hme
  obtain ⟨zz, hzz⟩ : ∃ zz, Z[k]'(by rw [HZL.out]; exact hks2) = zz := ⟨_, rfl⟩
  rw [hzz] at hat hok hme
  obtain ⟨⟨XA, xc, XB, xd, XD, xk, xe⟩, h, L⟩ := zz
  subst hA8
  have HTM : Hid (T = (st13 L, 0)) := Lib.hid (by
    rw [← HT.out, so13T, if_neg (by rw [HSN.out]; omega), Int.toNat_natCast, so13, co11, List.getElem?_eq_getElem (by rw [HSN.out]; exact hks2), hme]
    rfl)
  obtain ⟨hH, hRi, hxk⟩ := hok
  dsimp only at hH hRi hxk
  obtain ⟨-, -, -, -, -, -, -, g7⟩ := hat
  dsimp only at g7
  obtain ⟨m, hm⟩ : ∃ m, L.length = m := ⟨_, rfl⟩
  obtain rfl : m = xk := by rw [← hm]; exact hxk
  have HLm := Lib.hid hm
  have hm9 : m ≤ 9223372036854775807 := by have := hRi.len; omega
  have HRI := Lib.hid hRi
  clear hzz hme hxk hRi hH hm
  go_wp2_with fail
  go_loopw [6] (fun iv wr => ∃ i : Nat, i ≤ m ∧ iv = .int .i64 i ∧ Hid (st13 (L.take i) = false) ∧ w1 = wr) (fun iv _ => m - (intOf iv).toNat)
  case atStart => exact ⟨0, by omega, rfl, Lib.hid (by simp [st13]), rfl⟩
  case round =>
    obtain ⟨i, hi, rfl, HI, rfl⟩ := hrel
    by_cases h1 : i < m
    · obtain ⟨⟨o, a, z⟩, hx⟩ : ∃ x, L[i]? = some x := ⟨_, List.getElem?_eq_getElem (by rw [HLm.out]; exact h1)⟩
      obtain ⟨al, hA, k1, k2, k3⟩ := HRI.out.at9 hx
      subst hA
      have HX := Lib.hid hx
      clear hx
      by_cases ho : o = 5
      · have HS := Lib.hid (st13_yes HX.out (by simpa using ho))
        subst ho
        go_wp2_with fail
        go_ret2
        exact ⟨by rw [HTM.out, HS.out]; rfl, S1.out.1⟩
      · have HI2 : Hid (st13 (L.take (i + 1)) = false) := Lib.hid (by
          have e1 : (o == 5) = false := by simpa using ho
          rw [st13_take HX.out, HI.out, e1]; rfl)
        go_wp2_with fail
        go_roundw
        case rel => exact ⟨i + 1, by omega, by go_num, HI2, trivial⟩
        case measure => simp [intOf]; omega
    · obtain rfl : m = i := by omega
      have HS : Hid (st13 L = false) := Lib.hid (by
        have := HI.out
        rwa [List.take_of_length_le (by rw [HLm.out]; exact Nat.le_refl _)] at this)
      go_wp2_with fail
      go_ret2
      exact ⟨by rw [HTM.out, HS.out]; rfl, S1.out.1⟩
/-- Two rows of Booleans. -/
theorem r13same_v (A B : Option Addr) (c b n m : Nat) (U V : List Bool) (w : World) (ha : Rb9 w A c U) (hb : Rb9 w B b V) (hn : U.length = n) (hm : V.length = m) : Calls Try.prog 15 #[.slice A n c, .slice B m b] w fun r w' => r = .returned (.bool (decide (U = V))) ∧ Below w.heap.size w w' := by
  have HU := Lib.hid hn
  have HV := Lib.hid hm
  have HA := Lib.hid ha
  have HB := Lib.hid hb
  have hn9 : n ≤ 9223372036854775807 := by have := ha.1; have := ha.2.1; unfold maxLen at this; omega
  clear ha hb hn hm
  go_enter Try.func15, Try.ntmps15
  by_cases hnm : n = m
  · subst hnm
    go_wp2_with fail
    go_loopw [5] (fun iv wr => ∃ i : Nat, i ≤ n ∧ iv = .int .i64 i ∧ Hid (∀ j, j < i → bt13 U j = bt13 V j) ∧ Hid (Below w.heap.size w wr)) (fun iv _ => n - (intOf iv).toNat)
    case atStart => exact ⟨0, by omega, rfl, Lib.hid (fun j hj => by omega), Lib.hid (Below.refl _ _)⟩
    case round =>
      obtain ⟨i, hi, rfl, HI, HW⟩ := hrel
      rename World => wr
      by_cases h1 : i < n
      · obtain ⟨aa, u, hA, x0⟩ := (HA.out.keep HW.out).at_ (i := i) (by rw [HU.out]; exact h1)
        obtain ⟨ab, v, hB, y0⟩ := (HB.out.keep HW.out).at_ (i := i) (by rw [HV.out]; exact h1)
        have hu : bt13 U i = u := by
          rcases (HA.out.keep HW.out).2.2 with ⟨h, -⟩ | ⟨ad, h, hc⟩
          · rw [hA] at h; cases h
          · rw [hA] at h
            injection h with h
            subst h
            have h2 := hc i (bt13 U i) (by rw [bt13, List.getElem?_eq_getElem (by rw [HU.out]; exact h1)]; rfl)
            rw [x0] at h2
            injection h2 with h2
            injection h2 with h2
            exact h2.symm
        have hv : bt13 V i = v := by
          rcases (HB.out.keep HW.out).2.2 with ⟨h, -⟩ | ⟨ad, h, hc⟩
          · rw [hB] at h; cases h
          · rw [hB] at h
            injection h with h
            subst h
            have h2 := hc i (bt13 V i) (by rw [bt13, List.getElem?_eq_getElem (by rw [HV.out]; exact h1)]; rfl)
            rw [y0] at h2
            injection h2 with h2
            injection h2 with h2
            exact h2.symm
        have HUI := Lib.hid hu
        have HVI := Lib.hid hv
        subst hA hB
        clear hu hv
        have HWQ := Lib.hid (fun q => below_draws HW.out q)
        by_cases he : u = v
        · subst he
          have HI2 : Hid (∀ j, j < i + 1 → bt13 U j = bt13 V j) := Lib.hid fun j hj => by
            by_cases e : j = i
            · rw [e, HUI.out, HVI.out]
            · exact HI.out j (by omega)
          go_wp2_with fail
          go_quiet (fail)
          go_wp2_with fail
          go_roundw
          case rel => exact ⟨i + 1, by omega, by go_num, HI2, Lib.hid (HWQ.out _)⟩
          case measure => simp [intOf]; omega
        · have HE : Hid (decide (U = V) = false) := Lib.hid (by
            rw [decide_eq_false_iff_not]
            intro e
            apply he
            rw [← HUI.out, ← HVI.out, e])
          have hne : (!u == v) = true := by cases u <;> cases v <;> simp_all
          go_wp2_with fail
          go_quiet (fail)
          go_wp2_with fail
          go_ret
          exact ⟨by rw [HE.out]; rfl, HWQ.out _⟩
      · obtain rfl : n = i := by omega
        have HE : Hid (decide (U = V) = true) := Lib.hid (by
          rw [decide_eq_true_iff]
          refine bt13_ext (HU.out.trans HV.out.symm) fun j => ?_
          by_cases hj : j < n
          · exact HI.out j hj
          · rw [bt13_out (by rw [HU.out]; omega), bt13_out (by rw [HV.out]; omega)])
        go_wp2_with fail
        go_ret
        exact ⟨by rw [HE.out]; rfl, HW.out⟩
  · have HE : Hid (decide (U = V) = false) := Lib.hid (by
      rw [decide_eq_false_iff_not]
      intro e
      apply hnm
      rw [← HU.out, ← HV.out, e])
    have hnm2 : ¬ (n : Int) = (m : Int) := by omega
    go_wp2_with fail
    go_ret
    exact ⟨by rw [HE.out]; rfl, Below.refl _ _⟩
end Go.Proofs.Ytimjnmkfbdijeaa
namespace Go.Proofs.Ytimjnmkfbdijeaa
open Go.RowKit
set_option maxRecDepth 100000
set_option linter.unusedSimpArgs false
set_option linter.unusedVariables false

/-- Is something wrong at the method k, by whom it calls? -/
def cr13 (d : Md) (k : Nat) : Bool := re13 d k && (so13 d k || ((List.range d.s.length).filter (e11 d k)).any fun i => !re13 d i)
theorem sd13_cr (d : Md) : sd13 d = (List.range d.s.length).all fun k => !cr13 d k := by
  rw [Bool.eq_iff_iff, sd13_iff, List.all_eq_true]
  simp only [List.mem_range, cr13, Bool.not_eq_true', Bool.and_eq_false_iff, Bool.or_eq_false_iff, List.any_eq_false, List.mem_filter, Bool.not_eq_false', and_imp]
  constructor
  · intro h k hk
    cases hr : re13 d k with
    | false => exact .inl rfl
    | true =>
      obtain ⟨h1, h2⟩ := h k hk hr
      exact .inr ⟨h1, fun i hi he => by rw [h2 i hi he]; decide⟩
  · intro h k hk hr
    rcases h k hk with h1 | ⟨h1, h2⟩
    · rw [hr] at h1; cases h1
    · refine ⟨h1, fun i hi he => ?_⟩
      have := h2 i hi he
      cases hb : re13 d i with
      | true => rfl
      | false => rw [hb] at this; exact absurd rfl this
abbrev fN13 (A : Option Addr) (c : Nat) (K : List Int) : Fct := ⟨fun w => Rn w A c K, fun _ _ h hb => h.keep hb⟩
theorem ba13_yes {d : Md} {k : Nat} (hk : k < d.s.length) (h : bd11 (co11 d k) d.s.length = true) : ba11 d = true := by
  cases hb : ba11 d with
  | true => rfl
  | false => rw [ba11_at hb hk] at h; cases h
theorem wh13_no {d : Md} {k : Nat} (hk : k < d.s.length) (h : bd11 (co11 d k) d.s.length = true) : wh11 d k = ([], 2) := by
  rw [wh11, if_neg (by omega), Int.toNat_natCast, if_pos h]
theorem wh13_yes {d : Md} {k : Nat} (hk : k < d.s.length) (h : bd11 (co11 d k) d.s.length = false) : wh11 d k = (ns11 ((List.range d.s.length).filter (e11 d k)), 0) := by
  rw [wh11, if_neg (by omega), Int.toNat_natCast, if_neg (by rw [h]; simp)]
set_option maxHeartbeats 8000000 in
theorem r13check_v (y : Ma) (d : Md) (w : World) (hq : Hq w y d) (bs : d.s.length ≤ 1000) : Calls Try.prog 18 #[dv y d] w fun r w' => r = .returned (.int .i64 (ch13 d)) ∧ Below w.heap.size w w' := by
  have HZL := Lib.hid hq.zlen
  have S0 := Lib.hid ((((Sx.start w).add (fQm y d) hq).mkD y d))
  obtain ⟨B, hB⟩ : ∃ B, w.heap.size = B := ⟨_, rfl⟩
  have HBB := Lib.hid hB
  rw [hB] at S0
  have HBS := Lib.hid bs
  obtain ⟨n, hn⟩ : ∃ n, d.s.length = n := ⟨_, rfl⟩
  have HN := Lib.hid hn
  rw [hn] at bs
  clear hq hn
  go_enter Try.func18, Try.ntmps18
  go_upto_region 1 with (fail)
  change Code.wp _ _ _ _ (w.alloc (dcel y d))
  generalize w.alloc (dcel y d) = w1 at S0 ⊢
  clear hB
  go_wp2_with fail
  go_loopw [3] (fun iv wr => ∃ k : Nat, k ≤ n ∧ iv = .int .i64 k ∧ Hid (∀ j, j < k → bd11 (co11 d j) n = false) ∧ Hid (Sx w wr [fD B y d, fQm y d])) (fun iv _ => n - (intOf iv).toNat)
  case atStart => exact ⟨0, by omega, rfl, Lib.hid (fun j hj => by omega), S0⟩
  case round =>
    clear S0
    obtain ⟨k, hk, rfl, HB, SR⟩ := hrel
    rename World => wr
    obtain ⟨-, ⟨d0, d1, d2, d3, d4⟩, -⟩ := SR.out
    by_cases h1 : k < n
    · have HWH := Lib.hid (r11whom_v y d (k : Int) wr SR.out.2.2.1 HBS.out)
      have hkn : (k : Int) < (d.s.length : Int) := by rw [HN.out]; omega
      go_wp2_with fail
      refine HWH.out.mono ?_
      rintro r w3 ⟨A3, c3, rfl, ho, hb⟩
      have S3 := Lib.hid (SR.out.call hb)
      clear HWH ho hb d0 d1 d2 d3 d4
      cases hbd : bd11 (co11 d k) n with
      | true =>
        have HE : Hid (ch13 d = 2) := Lib.hid (by rw [ch13, if_pos (ba13_yes (by rw [HN.out]; exact h1) (by rw [HN.out]; exact hbd))])
        rw [wh13_no (by rw [HN.out]; exact h1) (by rw [HN.out]; exact hbd)]
        clear hbd
        go_wp2_with fail
        go_ret
        exact ⟨by rw [HE.out]; rfl, S3.out.1⟩
      | false =>
        have HB2 : Hid (∀ j, j < k + 1 → bd11 (co11 d j) n = false) := Lib.hid (fun j hj => by
          by_cases hjk : j = k
          · rw [hjk]; exact hbd
          · exact HB.out j (by omega))
        rw [wh13_yes (by rw [HN.out]; exact h1) (by rw [HN.out]; exact hbd)]
        clear hbd
        go_wp2_with fail
        go_roundw
        case rel => exact ⟨k + 1, by omega, by go_num, HB2, S3⟩
        case measure => simp [intOf]; omega
    · obtain rfl : n = k := by omega
      have hkn : ¬ (n : Int) < (d.s.length : Int) := by rw [HN.out]; omega
      have HBA : Hid (ba11 d = false) := Lib.hid (ba11_of (by rw [HN.out]; exact HB.out))
      have HCK : Hid (ch13 d = if ((List.range n).all fun k => !cr13 d k) = true then 0 else 130) := Lib.hid (by rw [ch13, if_neg (by rw [HBA.out]; simp), sd13_cr, HN.out])
      go_wp2_with fail
      clear d0 d1 d2 d3 d4 hkn
      go_loopw [6] (fun iv wr => ∃ k : Nat, k ≤ n ∧ iv = .int .i64 k ∧ Hid (∀ j, j < k → cr13 d j = false) ∧ Hid (Sx w wr [fD B y d, fQm y d])) (fun iv _ => n - (intOf iv).toNat)
      case atStart => exact ⟨0, by omega, rfl, Lib.hid (fun j hj => by omega), SR⟩
      case round =>
        clear SR
        obtain ⟨k, hk, rfl, HC, SR⟩ := hrel
        rename World => wz
        obtain ⟨-, ⟨d0, d1, d2, d3, d4⟩, -⟩ := SR.out
        by_cases h1 : k < n
        · have hkn : (k : Int) < (d.s.length : Int) := by rw [HN.out]; omega
          obtain ⟨ad8, hA8, hat, hok⟩ := SR.out.2.2.1.2.2.1.at_ (i := k) (by rw [HZL.out, HN.out]; exact h1)
          have hme := SR.out.2.2.1.zat (i := k) (by rw [HZL.out, HN.out]; exact h1) (by rw [HN.out]; exact h1)
          obtain ⟨zz, hzz⟩ : ∃ zz, y.Z[k]'(by rw [HZL.out, HN.out]; exact h1) = zz := ⟨_, rfl⟩
          rw [hzz] at hat hok hme
          obtain ⟨⟨XA, xc, XB, xd, XD, xk, xe⟩, h, L⟩ := zz
          have hre : re13 d k = h.q := by rw [re13, hd13, List.getElem?_eq_getElem (by rw [HN.out]; exact h1), hme]; rfl
          obtain ⟨-, -, -, g3, -⟩ := hat
          dsimp only at g3
          rw [← hre] at g3
          obtain ⟨u, hu⟩ : ∃ u, re13 d k = u := ⟨_, rfl⟩
          rw [hu] at g3
          have HU := Lib.hid hu
          have HA8 := Lib.hid hA8
          rw [hA8] at d3
          clear hzz hme hok hre hu hA8
          cases u with
          | false =>
            have HC2 : Hid (∀ j, j < k + 1 → cr13 d j = false) := Lib.hid fun j hj => by
              by_cases e : j = k
              · rw [e, cr13, HU.out]; rfl
              · exact HC.out j (by omega)
            go_wp2_with fail
            go_roundw
            case rel => exact ⟨k + 1, by omega, by go_num, HC2, SR⟩
            case measure => simp [intOf]; omega
          | true =>
            have HST := Lib.hid (r13stores_v y d (k : Int) wz SR.out.2.2.1 HBS.out)
            rw [Hid, so13T, if_neg (by rw [HN.out]; omega), Int.toNat_natCast] at HST
            have HST := Lib.hid HST
            rw [dv, HA8.out] at HST
            go_wp2_with fail
            refine HST.out.mono ?_
            rintro r w3 ⟨rfl, hb⟩
            have S3 := Lib.hid (SR.out.call hb)
            obtain ⟨s, hs⟩ : ∃ s, so13 d k = s := ⟨_, rfl⟩
            have HSO := Lib.hid hs
            rw [hs]
            have HWH := Lib.hid (r11whom_v y d (k : Int) w3 S3.out.2.2.1 HBS.out)
            rw [dv, HA8.out] at HWH
            clear HST hb hs d0 d1 d2 d3 d4 g3
            obtain ⟨-, ⟨d0, d1, d2, d3, d4⟩, -⟩ := S3.out
            rw [HA8.out] at d3
            dsimp only
            go_wp2_with fail
            refine HWH.out.mono ?_
            rintro r w4 ⟨A3, c3, rfl, ho, hb⟩
            have hw : wh11 d k = (ns11 ((List.range n).filter (e11 d k)), 0) := by
              have := wh11_ok HBA.out (k := k) (by rw [HN.out]; exact h1)
              rwa [HN.out] at this
            rw [hw] at ho ⊢
            obtain ⟨F, hF⟩ : ∃ F, (List.range n).filter (e11 d k) = F := ⟨_, rfl⟩
            rw [hF] at ho ⊢
            obtain ⟨kn, hkl⟩ : ∃ kn, (ns11 F).length = kn := ⟨_, rfl⟩
            dsimp only at ho ⊢
            rw [hkl] at ho ⊢
            have hkn9 : kn ≤ n := by rw [← hkl, ← hF]; exact fil_len11 _ _
            have HFL : Hid (F.length = kn) := Lib.hid (by rw [← hkl, ns11, List.length_map])
            have HFN : Hid (∀ x ∈ F, x < n) := Lib.hid fun x hx => by
              rw [← hF, List.mem_filter, List.mem_range] at hx
              exact hx.1
            have HCR : Hid (cr13 d k = (s || F.any fun i => !re13 d i)) := Lib.hid (by rw [cr13, HU.out, HSO.out, HN.out, hF]; rfl)
            have S4 := Lib.hid ((S3.out.call hb).add (fN13 A3 c3 (ns11 F)) (Rn.of_own ho).1)
            clear HWH ho hb hw hF hkl d0 d1 d2 d3 d4 SR S3
            go_wp2_with fail
            go_loopw [7, 11] (fun sv jv wq => ∃ (i : Nat) (v : Bool), i ≤ kn ∧ jv = .int .i64 i ∧ sv = .bool v ∧ Hid (v = (s || (F.take i).any fun i => !re13 d i)) ∧ Hid (Sx w wq [fN13 A3 c3 (ns11 F), fD B y d, fQm y d])) (fun _ jv _ => kn - (intOf jv).toNat)
            case atStart => exact ⟨0, s, by omega, rfl, rfl, Lib.hid (by simp), S4⟩
            case round =>
              clear S4
              obtain ⟨i, v, hi, rfl, rfl, HV, SQ⟩ := hrel
              rename World => wq
              have SQD := Lib.hid (fun q => SQ.out.drewN q)
              by_cases h2 : i < kn
              · obtain ⟨x, hx⟩ : ∃ x, F[i]? = some x := ⟨_, List.getElem?_eq_getElem (by rw [HFL.out]; exact h2)⟩
                have hxn := HFN.out x (List.mem_of_getElem? hx)
                have HT : Hid ((F.take (i + 1)).any (fun i => !re13 d i) = ((F.take i).any (fun i => !re13 d i) || !re13 d x)) := Lib.hid (by
                  rw [List.take_add_one, hx, List.any_append]
                  simp)
                cases v with
                | true =>
                  have HV2 : Hid (true = (s || (F.take (i + 1)).any fun i => !re13 d i)) := Lib.hid (by
                    rw [HT.out, ← Bool.or_assoc, ← HV.out]; rfl)
                  clear hx
                  go_wp2_with fail
                  go_quiet (fail)
                  go_wp2_with fail
                  go_roundw
                  case rel => exact ⟨i + 1, true, by omega, by go_num, rfl, HV2, Lib.hid (SQD.out _)⟩
                  case measure => simp [intOf]; omega
                | false =>
                  obtain ⟨bd, hA3, z0⟩ := SQ.out.2.1.at_ (ns11_at hx)
                  obtain ⟨ad8', hA8', hat, hok⟩ := SQ.out.2.2.2.1.2.2.1.at_ (i := x) (by rw [HZL.out, HN.out]; exact hxn)
                  have hme := SQ.out.2.2.2.1.zat (i := x) (by rw [HZL.out, HN.out]; exact hxn) (by rw [HN.out]; exact hxn)
                  rw [HA8.out] at hA8'
                  injection hA8' with hA8'
                  subst hA8'
                  obtain ⟨-, -, -, g3, -⟩ := hat
                  have hre : re13 d x = (y.Z[x]'(by rw [HZL.out, HN.out]; exact hxn)).m.q := by rw [re13, hd13, List.getElem?_eq_getElem (by rw [HN.out]; exact hxn), hme]; rfl
                  rw [← hre] at g3
                  obtain ⟨u2, hu2⟩ : ∃ u2, re13 d x = u2 := ⟨_, rfl⟩
                  rw [hu2] at g3
                  have HV2 : Hid ((!u2) = (s || (F.take (i + 1)).any fun i => !re13 d i)) := Lib.hid (by
                    rw [HT.out, ← Bool.or_assoc, ← HV.out, hu2]; rfl)
                  obtain ⟨-, -, ⟨d0, d1, d2, d3, d4⟩, -⟩ := SQ.out
                  rw [HA8.out] at d3
                  subst hA3
                  have hxs : (x : Int) < (d.s.length : Int) := by rw [HN.out]; omega
                  clear hx hok hme hre hu2
                  go_wp2_with fail
                  go_quiet (fail)
                  go_wp2_with fail
                  go_roundw
                  case rel => exact ⟨i + 1, !u2, by omega, by go_num, rfl, HV2, Lib.hid (SQD.out _)⟩
                  case measure => simp [intOf]; omega
              · obtain rfl : kn = i := by omega
                have HVC : Hid (cr13 d k = v) := Lib.hid (by
                  have h := HV.out
                  rw [List.take_of_length_le (by rw [HFL.out]; exact Nat.le_refl _)] at h
                  rw [HCR.out, h])
                cases v with
                | true =>
                  have HE : Hid (ch13 d = 130) := Lib.hid (by
                    rw [HCK.out, if_neg]
                    intro h
                    rw [List.all_eq_true] at h
                    have := h k (List.mem_range.2 h1)
                    rw [HVC.out] at this
                    cases this)
                  go_wp2_with fail
                  go_ret
                  exact ⟨by rw [HE.out]; rfl, SQ.out.1⟩
                | false =>
                  have HC2 : Hid (∀ j, j < k + 1 → cr13 d j = false) := Lib.hid fun j hj => by
                    by_cases e : j = k
                    · rw [e, HVC.out]
                    · exact HC.out j (by omega)
                  have SZ : Hid (Sx w wq [fD B y d, fQm y d]) := Lib.hid ⟨SQ.out.1, SQ.out.2.2⟩
                  go_wp2_with fail
                  go_roundw
                  case rel => exact ⟨k + 1, by omega, by go_num, HC2, SZ⟩
                  case measure => simp [intOf]; omega
        · obtain rfl : n = k := by omega
          have hkn : ¬ (n : Int) < (d.s.length : Int) := by rw [HN.out]; omega
          have HE : Hid (ch13 d = 0) := Lib.hid (by
            rw [HCK.out, if_pos]
            rw [List.all_eq_true]
            intro j hj
            rw [HC.out j (List.mem_range.1 hj)]
            rfl)
          go_wp2_with fail
          go_ret
          exact ⟨by rw [HE.out]; rfl, SR.out.1⟩
end Go.Proofs.Ytimjnmkfbdijeaa
namespace Go.Proofs.Ytimjnmkfbdijeaa
open Go.RowKit
set_option maxRecDepth 100000
set_option linter.unusedSimpArgs false
set_option linter.unusedVariables false

/-- After k methods have been asked. -/
def ra13 (d : Md) (n k : Nat) : List Bool := (List.range n).map fun j => decide (j < k) && !so13 d j
theorem ra13_len (d : Md) (n k : Nat) : (ra13 d n k).length = n := by simp [ra13]
theorem ra13_zero (d : Md) (n : Nat) : ra13 d n 0 = xb13 0 n := by
  unfold ra13 xb13
  apply List.ext_getElem?
  intro j
  by_cases hj : j < n
  · simp [hj]
  · simp [hj]
theorem ra13_step {d : Md} {n k : Nat} (hk : k < n) : (ra13 d n k).set k (!so13 d k) = ra13 d n (k + 1) := by
  apply List.ext_getElem?
  intro j
  by_cases hj : j < n
  · have hl : j < (ra13 d n k).length := by rw [ra13_len]; exact hj
    by_cases h : j = k
    · subst h
      rw [List.getElem?_set_self hl, ra13, List.getElem?_map, List.getElem?_range hj]
      simp
    · rw [List.getElem?_set_ne (fun e => h e.symm), ra13, ra13, List.getElem?_map, List.getElem?_map, List.getElem?_range hj]
      have : decide (j < k) = decide (j < k + 1) := by
        rw [decide_eq_decide]; omega
      simp [this]
  · rw [List.getElem?_eq_none (by rw [List.length_set, ra13_len]; omega), List.getElem?_eq_none (by rw [ra13_len]; omega)]
theorem ra13_all (d : Md) : ra13 d d.s.length d.s.length = o013 d := by
  unfold ra13 o013
  refine List.map_congr_left fun k hk => ?_
  have : decide (k < d.s.length) = true := by simpa using List.mem_range.1 hk
  rw [this, Bool.true_and]
/-- While the callees F of k are asked: i of them. -/
def rb13 (o : List Bool) (F : List Nat) (k i : Nat) : List Bool := o.set k (bt13 o k && (F.take i).all fun x => bt13 o x)
theorem rb13_len (o : List Bool) (F : List Nat) (k i : Nat) : (rb13 o F k i).length = o.length := by simp [rb13]
theorem rb13_zero {o : List Bool} {F : List Nat} {k : Nat} : rb13 o F k 0 = o := by
  unfold rb13
  rw [List.take_zero, List.all_nil, Bool.and_true]
  apply List.ext_getElem?
  intro j
  by_cases h : j = k
  · subst h
    by_cases hj : j < o.length
    · rw [List.getElem?_set_self hj, bt13_some hj]
    · rw [List.getElem?_eq_none (by rw [List.length_set]; omega), List.getElem?_eq_none (by omega)]
  · rw [List.getElem?_set_ne (fun e => h e.symm)]
theorem rb13_at {o : List Bool} {F : List Nat} {k i : Nat} (hk : k < o.length) (j : Nat) : bt13 (rb13 o F k i) j = if j = k then (bt13 o k && (F.take i).all fun x => bt13 o x) else bt13 o j := bt13_set j hk
theorem rb13_step {o : List Bool} {F : List Nat} {k i x : Nat} (hk : k < o.length) (hx : F[i]? = some x) : (rb13 o F k i).set k (bt13 (rb13 o F k i) k && bt13 (rb13 o F k i) x) = rb13 o F k (i + 1) := by
  rw [rb13_at hk, rb13_at hk, if_pos rfl]
  unfold rb13
  rw [List.set_set, List.take_add_one, hx, List.all_append]
  congr 1
  have e : ((some x).toList.all fun x => bt13 o x) = bt13 o x := by simp
  rw [e]
  generalize ((F.take i).all fun x => bt13 o x) = P
  by_cases h : x = k
  · subst h
    rw [if_pos rfl]
    generalize bt13 o x = b
    cases b <;> cases P <;> rfl
  · rw [if_neg h, Bool.and_assoc]
theorem rn_set13 {w : World} {A : Option Addr} {c g : Nat} {K : List Int} (hr : Rn w A c K) (hg : ∀ ad : Addr, A = some ad → ad.block ≠ g) (j : Nat) (v : Value) : Rn (w.setCell ⟨g, j, none⟩ v) A c K :=
  ((Fr11.refl (fun x => x = g) w).set (p := ⟨g, j, none⟩) (.inr rfl) v).rn hr fun ad ha _ e => hg ad ha e
theorem rb13_all {o : List Bool} {d : Md} {n k : Nat} : rb13 o ((List.range n).filter (e11 d k)) k ((List.range n).filter (e11 d k)).length = tk13 (e11 d) n o k := by
  unfold rb13 tk13 an13
  rw [List.take_length, List.all_filter]
set_option maxHeartbeats 8000000 in
theorem r13pure_v (y : Ma) (d : Md) (w : World) (hq : Hq w y d) (bs : d.s.length ≤ 1000) : Calls Try.prog 10 #[dv y d] w fun r w' => Bo13 w w' (pu13T d) r := by
  have S0 := Lib.hid ((((Sx.start w).add (fQm y d) hq).mkD y d))
  obtain ⟨B, hB⟩ : ∃ B, w.heap.size = B := ⟨_, rfl⟩
  have HBB := Lib.hid hB
  rw [hB] at S0
  have HBS := Lib.hid bs
  have hmk := madeB13 d.s.length bs
  clear hq
  go_enter Try.func10, Try.ntmps10
  go_upto_region 1 with (fail)
  change Code.wp _ _ _ _ (w.alloc (dcel y d))
  generalize w.alloc (dcel y d) = w1 at S0 ⊢
  clear hB
  obtain ⟨-, ⟨d0, d1, d2, d3, d4⟩, -⟩ := S0.out
  go_wp2_with fail
  clear d0 d1 d2 d3 d4 hmk
  obtain ⟨n, hn⟩ : ∃ n, d.s.length = n := ⟨_, rfl⟩
  have HN := Lib.hid hn
  rw [hn] at bs ⊢
  obtain ⟨g, hg⟩ : ∃ g, w1.heap.size = g := ⟨_, rfl⟩
  have HG := Lib.hid hg
  rw [hg]
  have HT0 : Hid (Tb13 (w1.alloc (.cells (cb13 (xb13 0 n)).toArray 4)) g (ra13 d n 0)) := Lib.hid (by rw [← hg, ra13_zero]; exact heap_alloc_new w1 _)
  have HB0 : Hid (Below g w1 (w1.alloc (.cells (cb13 (xb13 0 n)).toArray 4))) := Lib.hid (by rw [← hg]; exact new1)
  generalize w1.alloc (.cells (cb13 (xb13 0 n)).toArray 4) = w2 at HT0 HB0 ⊢
  clear hg hn
  go_loopw [5] (fun iv wr => ∃ k : Nat, k ≤ n ∧ iv = .int .i64 k ∧ Hid (∀ j, j < k → bd11 (co11 d j) n = false) ∧ Hid (Tb13 wr g (ra13 d n k)) ∧ Hid (Below g w1 wr)) (fun iv _ => n - (intOf iv).toNat)
  case atStart => exact ⟨0, by omega, rfl, Lib.hid (fun j hj => by omega), HT0, HB0⟩
  case round =>
    clear HT0 HB0
    obtain ⟨k, hk, rfl, HD, HT, HB⟩ := hrel
    rename World => wr
    by_cases h1 : k < n
    · have SR := Lib.hid (S0.out.call (by rw [HG.out]; exact HB.out))
      have HWH := Lib.hid (r11whom_v y d (k : Int) wr SR.out.2.2.1 HBS.out)
      rw [dv, HN.out] at HWH
      obtain ⟨-, ⟨d0, d1, d2, d3, d4⟩, -⟩ := SR.out
      rw [HN.out] at d3
      go_wp2_with fail
      refine HWH.out.mono ?_
      rintro r w3 ⟨A3, c3, rfl, ho, hb⟩
      have HT3 := Lib.hid (HT.out.keep hb)
      have HB3 := Lib.hid (HB.out.trans (hb.mono (Nat.le_of_lt HT.out.lt)))
      clear HWH ho hb d0 d1 d2 d3 d4 HT HB SR
      cases hbd : bd11 (co11 d k) n with
      | true =>
        have HE := Lib.hid (Bo13.err (w := w) (w' := w3) (T := pu13T d) (e := 2) (by rw [pu13T, if_pos (ba13_yes (by rw [HN.out]; exact h1) (by rw [HN.out]; exact hbd))]) (S0.out.call (by rw [HG.out]; exact HB3.out)).1)
        rw [wh13_no (by rw [HN.out]; exact h1) (by rw [HN.out]; exact hbd)]
        clear hbd
        go_wp2_with fail
        go_ret2
        exact HE.out
      | false =>
        have HB2 : Hid (∀ j, j < k + 1 → bd11 (co11 d j) n = false) := Lib.hid (fun j hj => by
          by_cases hjk : j = k
          · rw [hjk]; exact hbd
          · exact HD.out j (by omega))
        rw [wh13_yes (by rw [HN.out]; exact h1) (by rw [HN.out]; exact hbd)]
        clear hbd
        have SR := Lib.hid (S0.out.call (by rw [HG.out]; exact HB3.out))
        have HST := Lib.hid (r13stores_v y d (k : Int) w3 SR.out.2.2.1 HBS.out)
        rw [Hid, so13T, if_neg (by rw [HN.out]; omega), Int.toNat_natCast, dv, HN.out] at HST
        have HST := Lib.hid HST
        obtain ⟨-, ⟨d0, d1, d2, d3, d4⟩, -⟩ := SR.out
        rw [HN.out] at d3
        go_wp2_with fail
        refine HST.out.mono ?_
        rintro r w4 ⟨rfl, hb⟩
        have HT4 := Lib.hid (HT3.out.keep hb)
        have HB4 := Lib.hid (HB3.out.trans (hb.mono (Nat.le_of_lt HT3.out.lt)))
        clear HST hb d0 d1 d2 d3 d4 HT3 HB3 SR
        have x0 := HT4.out.cell (i := k) (x := bt13 (ra13 d n k) k) (bt13_some (by rw [ra13_len]; exact h1))
        have xf := HT4.out.froz k
        have HT5 : Hid (Tb13 (w4.setCell ⟨g, k, none⟩ (.bool (!so13 d k))) g (ra13 d n (k + 1))) := Lib.hid (by rw [← ra13_step h1]; exact HT4.out.put k _)
        have HB5 := Lib.hid (HB4.out.setCell (p := ⟨g, k, none⟩) (Nat.le_refl _) (.bool (!so13 d k)))
        dsimp only
        go_wp2_with fail
        go_roundw
        case rel => exact ⟨k + 1, by omega, by go_num, HB2, HT5, HB5⟩
        case measure => simp [intOf]; omega
    · obtain rfl : n = k := by omega
      have HBA : Hid (ba11 d = false) := Lib.hid (ba11_of (by rw [HN.out]; exact HD.out))
      have HT0 : Hid (Tb13 wr g (tt13 (e11 d) n (o013 d) 0)) := Lib.hid (by
        have := HT.out
        rw [← HN.out, ra13_all] at this
        exact this)
      have HOL : Hid ((o013 d).length = n) := Lib.hid (by rw [o013_len, HN.out])
      clear HD HT
      go_wp2_with fail
      go_loopw [10] (fun iv wr => ∃ t : Nat, t ≤ n + 1 ∧ iv = .int .i64 t ∧ Hid (Tb13 wr g (tt13 (e11 d) n (o013 d) t)) ∧ Hid (Below g w1 wr)) (fun iv _ => n + 1 - (intOf iv).toNat)
      case atStart => exact ⟨0, by omega, rfl, HT0, HB⟩
      case round =>
        clear HT0 HB
        obtain ⟨t, ht, rfl, HT, HB⟩ := hrel
        rename World => wq
        by_cases h2 : t ≤ n
        · obtain ⟨o, ho⟩ : ∃ o, tt13 (e11 d) n (o013 d) t = o := ⟨_, rfl⟩
          have HO := Lib.hid ho
          have HLO : Hid (o.length = n) := Lib.hid (by rw [← ho, tt13_len]; exact HOL.out)
          have HT1 : Hid (Tb13 wq g (tu13 (e11 d) n o 0)) := Lib.hid (by rw [← ho]; exact HT.out)
          clear ho HT
          go_wp2_with fail
          go_loopw [11] (fun iv wr => ∃ k : Nat, k ≤ n ∧ iv = .int .i64 k ∧ Hid (Tb13 wr g (tu13 (e11 d) n o k)) ∧ Hid (Below g w1 wr)) (fun iv _ => n - (intOf iv).toNat)
          case atStart => exact ⟨0, by omega, rfl, HT1, HB⟩
          case round =>
            clear HT1 HB
            obtain ⟨k, hk, rfl, HT, HB⟩ := hrel
            rename World => wz
            by_cases h1 : k < n
            · have SR := Lib.hid (S0.out.call (by rw [HG.out]; exact HB.out))
              have HWH := Lib.hid (r11whom_v y d (k : Int) wz SR.out.2.2.1 HBS.out)
              rw [dv, HN.out] at HWH
              obtain ⟨-, ⟨d0, d1, d2, d3, d4⟩, -⟩ := SR.out
              rw [HN.out] at d3
              go_wp2_with fail
              refine HWH.out.mono ?_
              rintro r w4 ⟨A3, c3, rfl, ho, hb⟩
              have hw : wh11 d k = (ns11 ((List.range n).filter (e11 d k)), 0) := by
                have := wh11_ok HBA.out (k := k) (by rw [HN.out]; exact h1)
                rwa [HN.out] at this
              rw [hw] at ho ⊢
              obtain ⟨F, hF⟩ : ∃ F, (List.range n).filter (e11 d k) = F := ⟨_, rfl⟩
              rw [hF] at ho ⊢
              obtain ⟨kn, hkl⟩ : ∃ kn, (ns11 F).length = kn := ⟨_, rfl⟩
              dsimp only at ho ⊢
              rw [hkl] at ho ⊢
              have hkn9 : kn ≤ n := by rw [← hkl, ← hF]; exact fil_len11 _ _
              have HFL : Hid (F.length = kn) := Lib.hid (by rw [← hkl, ns11, List.length_map])
              have HFN : Hid (∀ x ∈ F, x < n) := Lib.hid fun x hx => by
                rw [← hF, List.mem_filter, List.mem_range] at hx
                exact hx.1
              obtain ⟨p, hp⟩ : ∃ p, tu13 (e11 d) n o k = p := ⟨_, rfl⟩
              have HLP : Hid (p.length = n) := Lib.hid (by rw [← hp, tu13_len]; exact HLO.out)
              have HTU : Hid (tu13 (e11 d) n o (k + 1) = rb13 p F k kn) := Lib.hid (by
                rw [tu13_succ, hp, ← HFL.out, ← hF]
                exact rb13_all.symm)
              have HT4 : Hid (Tb13 w4 g (rb13 p F k 0)) := Lib.hid (by rw [rb13_zero, ← hp]; exact HT.out.keep hb)
              have HB4 := Lib.hid (HB.out.trans (hb.mono (Nat.le_of_lt HT.out.lt)))
              have HR4 := Lib.hid (Rn.of_own ho).1
              have HAG : Hid (∀ ad : Addr, A3 = some ad → ad.block ≠ g) := Lib.hid fun ad ha e => by
                have h3 := own_at13 ho ad ha
                have h4 := HT.out.lt
                omega
              clear HWH ho hb hw hF hkl hp d0 d1 d2 d3 d4 SR HT HB
              go_wp2_with fail
              go_loopw [14] (fun jv wr => ∃ i : Nat, i ≤ kn ∧ jv = .int .i64 i ∧ Hid (Tb13 wr g (rb13 p F k i)) ∧ Hid (Below g w1 wr) ∧ Hid (Rn wr A3 c3 (ns11 F))) (fun jv _ => kn - (intOf jv).toNat)
              case atStart => exact ⟨0, by omega, rfl, HT4, HB4, HR4⟩
              case round =>
                clear HT4 HB4 HR4
                obtain ⟨i, hi, rfl, HT, HB, HR⟩ := hrel
                rename World => wy
                by_cases h3 : i < kn
                · obtain ⟨x, hx⟩ : ∃ x, F[i]? = some x := ⟨_, List.getElem?_eq_getElem (by rw [HFL.out]; exact h3)⟩
                  have hxn := HFN.out x (List.mem_of_getElem? hx)
                  obtain ⟨bd, hA3, z0⟩ := HR.out.at_ (ns11_at hx)
                  subst hA3
                  have HST := Lib.hid (rb13_step (o := p) (F := F) (k := k) (i := i) (x := x) (by rw [HLP.out]; exact h1) hx)
                  obtain ⟨u, hu⟩ : ∃ u, bt13 (rb13 p F k i) k = u := ⟨_, rfl⟩
                  obtain ⟨v, hv⟩ : ∃ v, bt13 (rb13 p F k i) x = v := ⟨_, rfl⟩
                  rw [hu, hv] at HST
                  have x0 := HT.out.cell (i := k) (x := u) (by rw [← hu]; exact bt13_some (by rw [rb13_len, HLP.out]; exact h1))
                  have x1 := HT.out.cell (i := x) (x := v) (by rw [← hv]; exact bt13_some (by rw [rb13_len, HLP.out]; exact hxn))
                  have xf := HT.out.froz k
                  have HT5 : Hid (Tb13 (wy.setCell ⟨g, k, none⟩ (.bool (u && v))) g (rb13 p F k (i + 1))) := Lib.hid (by rw [← HST.out]; exact HT.out.put k _)
                  have HB5 := Lib.hid (HB.out.setCell (p := ⟨g, k, none⟩) (Nat.le_refl _) (.bool (u && v)))
                  have HR5 := Lib.hid (rn_set13 HR.out HAG.out k (.bool (u && v)))
                  clear hx hu hv HST
                  cases u with
                  | true =>
                    rw [Bool.true_and] at HT5 HB5 HR5
                    go_wp2_with fail
                    go_roundw
                    case rel => exact ⟨i + 1, by omega, by go_num, HT5, HB5, HR5⟩
                    case measure => simp [intOf]; omega
                  | false =>
                    rw [Bool.false_and] at HT5 HB5 HR5
                    go_wp2_with fail
                    go_roundw
                    case rel => exact ⟨i + 1, by omega, by go_num, HT5, HB5, HR5⟩
                    case measure => simp [intOf]; omega
                · obtain rfl : kn = i := by omega
                  have HT5 : Hid (Tb13 wy g (tu13 (e11 d) n o (k + 1))) := Lib.hid (by rw [HTU.out]; exact HT.out)
                  go_wp2_with fail
                  go_roundw
                  case rel => exact ⟨k + 1, by omega, by go_num, HT5, HB⟩
                  case measure => simp [intOf]; omega
            · obtain rfl : n = k := by omega
              have HT5 : Hid (Tb13 wz g (tt13 (e11 d) n (o013 d) (t + 1))) := Lib.hid (by rw [tt13, HO.out]; exact HT.out)
              go_wp2_with fail
              go_roundw
              case rel => exact ⟨t + 1, by omega, by go_num, HT5, HB⟩
              case measure => simp [intOf]; omega
        · obtain rfl : t = n + 1 := by omega
          have HTF : Hid (Tb13 wq g ((List.range n).map (pu13 d))) := Lib.hid (by
            have h := HT.out
            have h3 := tt13_pu (d := d) (o := o013 d) (o013_len d) (fun k hk => o013_at hk)
            rw [HN.out] at h3
            rw [h3] at h
            exact h)
          have HPT : Hid (pu13T d = ((List.range n).map (pu13 d), 0)) := Lib.hid (by rw [pu13T, if_neg (by rw [HBA.out]; simp), HN.out])
          have hlm : ((List.range n).map (pu13 d)).length = n := by rw [List.length_map, List.length_range]
          have HBF := Lib.hid (S0.out.call (by rw [HG.out]; exact HB.out)).1
          have hwg : w.heap.size ≤ g := by rw [← HG.out]; exact S0.out.1.size
          have HLM := Lib.hid hlm
          clear hlm
          go_wp2_with fail
          go_ret2
          rw [HPT.out]
          exact ⟨some ⟨g, 0, none⟩, n, by dsimp only; rw [HLM.out]; rfl, by dsimp only; rw [HLM.out]; exact HTF.out.own HLM.out hwg (by omega), HBF.out⟩
end Go.Proofs.Ytimjnmkfbdijeaa
namespace Go.Proofs.Ytimjnmkfbdijeaa
open Go.RowKit
set_option maxRecDepth 100000
set_option linter.unusedSimpArgs false
set_option linter.unusedVariables false

theorem put13 {w : World} {lo hi B : Nat} {y : Ma} {d : Md} (hq : Hq w y d) (ho : Ow w lo hi y d) (hB : B < lo) (y2 : Ma) (d2 : Md) : Hq (put4 w B y2 d2) y d ∧ Ow (put4 w B y2 d2) lo hi y d := by
  have hp : Sp B (B + 1) w (put4 w B y2 d2) := ((((Sp.refl B (B + 1) w).set (Nat.le_refl _) (by omega) _ _).set (Nat.le_refl _) (by omega) _ _).set (Nat.le_refl _) (by omega) _ _).set (Nat.le_refl _) (by omega) _ _
  exact ⟨hq.apart ho hp (.inr (by omega)), (((ho.set _ _ _).set _ _ _).set _ _ _).set _ _ _⟩
theorem rsay_end (tm : Array Value) (w' : World) (T : Nat) (y : Ma) (d : Md) (e : Int) (hT : tm[2]?.getD undef = .pointer (some ⟨T, 0, none⟩)) (hE : tm[3]?.getD undef = .int .i64 e) (hM : Db w' T y d) (R : Ending → World → Prop)
    (hR : R (.returned (.tuple #[dv y d, .int .i64 e])) w') : bodyPost Try.prog Try.f11 R .ret { tmps := tm, defers := [] } w' := by
  obtain ⟨h0, c1, c2, c3, c4⟩ := hM
  exact bodyPost_ret (v := .tuple #[dv y d, .int .i64 e]) (by simp [results, Try.results11, go_sem, hT, hE, c1, c2, c3, c4]) rfl hR
/-- Amid Say: j methods have been told. -/
def Ry13 (w : World) (B1 T lo hi : Nat) (t : Ma) (d : Md) (Ap : Option Addr) (cp j : Nat) (y : Ma) (wr : World) : Prop :=
  Below w.heap.size w wr ∧ (Mf wr (B1 + 1) ∧ Db wr (B1 + 1) Ma.zero Md.zero) ∧ Db wr T t d ∧ Hq wr y { d with s := sm13 d j } ∧ Ow wr lo hi y { d with s := sm13 d j } ∧ Pr13 (B1 + 2) Ap cp d wr ∧ hi ≤ T ∧ B1 + 1 < lo ∧ w.heap.size = B1 ∧ y.A = t.A ∧ y.G = t.G ∧ y.P = t.P ∧ y.gc = t.gc ∧ y.pc = t.pc ∧ y.c = t.c
section
variable {w wr w' : World} {B1 T lo hi : Nat} {t y : Ma} {d : Md} {Ap : Option Addr} {cp j : Nat}
theorem Ry13.put {g kk : Nat} {z : Me} (h : Ry13 w B1 T lo hi t d Ap cp j y wr) (hj : j < d.s.length) (hA : y.A = some ⟨g, 0, none⟩) (hg : Bk wr g 52 kk) (h1 : lo ≤ g) (h2 : g < hi) (hz : y.Z[j]? = some z) (hzj : d.s[j]? = some (ze z)) (hat : At8 wr ⟨g, j * 8, none⟩ z) (hok : z.ok wr) (hoz : Owz wr lo hi z) :
    ∃ y', Ry13 w B1 T lo hi t d Ap cp (j + 1) y' (wr.setCell ⟨g, j * 8 + 3, none⟩ (.bool (pu13 d j))) := by
  obtain ⟨r1, r2, r3, r4, r5, r6, r7, r8, r9, r10⟩ := h
  obtain ⟨q1, q2⟩ := hq13 r4 r5 hA hg hz hat hok hoz (pu13 d j)
  have hs : (sm13 d j).set j ({ z.m with q := pu13 d j }, z.k) = sm13 d (j + 1) := (sm13_step (x' := z.x) hj hzj).symm
  dsimp only at q1 q2
  rw [hs] at q1 q2
  exact ⟨_, r1.setCell (p := ⟨g, j * 8 + 3, none⟩) (show w.heap.size ≤ g by omega) _, ⟨r2.1.set _ _, r2.2.other (show g ≠ B1 + 1 by omega) _⟩, r3.other (show g ≠ T by omega) _, q1, q2, own_tag r6 hg (by decide) _ _, r7, r8, r9, r10⟩
theorem Ry13.drew (h : Ry13 w B1 T lo hi t d Ap cp j y wr) : Ry13 w B1 T lo hi t d Ap cp j y wr.drew := by
  obtain ⟨r1, r2, r3, r4, r5, r6, r7⟩ := h
  exact ⟨below_draws r1 1, r2, r3, r4, r5, r6, r7⟩
end
set_option maxHeartbeats 8000000 in
theorem r13say_v (y : Ma) (d : Md) (w : World) (hq : Hq w y d) (hg : qG d = false) (bs : d.s.length ≤ 1000) : Calls Try.prog 11 #[dv y d] w fun r w' => Sa13 w w' (sy13T d) r := by
  have S0 : Hid (Sx w ((w.alloc (dcel y d)).alloc (dcel Ma.zero Md.zero)) [fF w.heap.size, fD w.heap.size y d, fMz (w.heap.size + 1), fQm y d]) := by
    have h1 := (((Sx.start w).add (fQm y d) hq).mkD y d).mkD Ma.zero Md.zero
    have h2 := Db.new (w.alloc (dcel y d)) Ma.zero Md.zero
    have h3 := Mf.new (w.alloc (dcel y d)) #[.slice none 0 0, .slice none 0 0, .slice none 0 0, .int .i64 0] 25
    rw [size1] at h1 h2 h3
    exact ⟨h1.1, (Mf.new w _ _).keep new1, h1.2.2.1, ⟨h3, h2⟩, h1.2.2.2⟩
  have HQG := Lib.hid hg
  clear hq hg
  go_enter Try.func11, Try.ntmps11
  go_upto_region 1 with (fail)
  have S0' : Hid (Sx w ((w.alloc (.cells #[.slice y.G d.g.length y.gc, .slice y.P d.p.length y.pc, .slice y.A d.s.length y.c, .int .i64 d.i] 25)).alloc (.cells #[.slice none 0 0, .slice none 0 0, .slice none 0 0, .int .i64 0] 25)) [fF w.heap.size, fD w.heap.size y d, fMz (w.heap.size + 1), fQm y d]) := S0
  clear S0
  generalize (w.alloc (.cells #[.slice y.G d.g.length y.gc, .slice y.P d.p.length y.pc, .slice y.A d.s.length y.c, .int .i64 d.i] 25)).alloc (.cells #[.slice none 0 0, .slice none 0 0, .slice none 0 0, .int .i64 0] 25) = w0 at *
  have S0 := S0'
  clear S0'
  obtain ⟨B1, hB1⟩ : ∃ B, w.heap.size = B := ⟨_, rfl⟩
  have HBQ := Lib.hid hB1
  rw [hB1] at S0 ⊢
  clear hB1
  have HPU := Lib.hid (r13pure_v y d w0 S0.out.2.2.2.2.1 bs)
  obtain ⟨-, -, ⟨y0, y1, y2, y3, y4⟩, -⟩ := S0.out
  go_wp2_with fail
  refine HPU.out.mono ?_
  rintro r w2 ⟨Ap, cp, rfl, ho, hb⟩
  have S2 := Lib.hid (S0.out.call hb)
  have HO := Lib.hid (own_base (base' := B1 + 2) ho (Nat.succ_le_of_lt S0.out.2.2.2.1.1.1))
  clear ho hb HPU S0 y0 y1 y2 y3 y4
  cases hba : ba11 d with
  | true =>
    have hT : pu13T d = ([], 2) := by rw [pu13T, if_pos hba]
    have HT : Hid (sy13T d = (Md.zero, 2)) := Lib.hid (by rw [sy13T, if_pos hba])
    rw [hT]
    clear hT HO hba
    obtain ⟨-, -, -, ⟨⟨e0, ef⟩, ⟨e1, e2, e3, e4, e5⟩⟩, -⟩ := S2.out
    have f0 := ef 0
    have f1 := ef 1
    have f2 := ef 2
    have f3 := ef 3
    have HDB := Lib.hid (put4_db S2.out.2.2.2.1.2 Ma.zero Md.zero)
    have HBW : Hid (Below w.heap.size w (put4 w2 (B1 + 1) Ma.zero Md.zero)) := Lib.hid (put4_below S2.out.1 (by rw [HBQ.out]; omega) Ma.zero Md.zero)
    clear ef
    go_wp2_with fail
    exact rsay_end _ _ (B1 + 1) Ma.zero Md.zero 2 rfl rfl HDB.out _ (by rw [HT.out]; exact ⟨Ma.zero, rfl, Hq.zero _, Ow.zero _ _ _, HBW.out⟩)
  | false =>
    have hT : pu13T d = ((List.range d.s.length).map (pu13 d), 0) := by rw [pu13T, if_neg (by rw [hba]; simp)]
    have HT : Hid (sy13T d = (sy13 d (pu13 d), 0)) := Lib.hid (by rw [sy13T, if_neg (by rw [hba]; simp)])
    have hlm : ((List.range d.s.length).map (pu13 d)).length = d.s.length := by rw [List.length_map, List.length_range]
    have HPR : Hid (Pr13 (B1 + 2) Ap cp d w2) := Lib.hid (by
      have := HO.out
      rw [hT] at this
      dsimp only at this
      rw [hlm] at this
      exact this)
    rw [hT]
    dsimp only
    rw [hlm]
    clear hT hlm HO hba
    have HCP := Lib.hid (r8copyw y d w2 S2.out.2.2.2.2.1 HQG.out)
    obtain ⟨-, -, ⟨y0, y1, y2, y3, y4⟩, -⟩ := S2.out
    go_wp2_with fail
    refine HCP.out.mono ?_
    rintro r w3 ⟨t, rfl, hq, ho, hb⟩
    go_wp2_with fail
    obtain ⟨T, hT⟩ : ∃ T, w3.heap.size = T := ⟨_, rfl⟩
    have HT3 := Lib.hid hT
    rw [hT]
    have HR0 : Hid (Ry13 w B1 T w2.heap.size T t d Ap cp 0 t (w3.alloc (.cells #[.slice t.G d.g.length t.gc, .slice t.P d.p.length t.pc, .slice t.A d.s.length t.c, .int .i64 d.i] 25))) := Lib.hid (by
      have hS := S2.out.call hb
      have hd : ({ d with s := sm13 d 0 } : Md) = d := by rw [sm13_zero]
      have hn : Below w3.heap.size w3 (w3.alloc (.cells #[.slice t.G d.g.length t.gc, .slice t.P d.p.length t.pc, .slice t.A d.s.length t.c, .int .i64 d.i] 25)) := new1
      refine ⟨below_on hS.1 hn, ⟨hS.2.2.2.1.1.keep hn, hS.2.2.2.1.2.keep hn⟩, ?_, by rw [hd]; exact hq.keep hn, ?_, (HPR.out.keep hb).keep hn, Nat.le_refl _, S2.out.2.2.2.1.1.1, HBQ.out, rfl, rfl, rfl, rfl, rfl, rfl⟩
      · rw [← hT]; exact Db.new w3 t d
      · rw [hd, ← hT]; exact ho.keep hn)
    clear hq ho hb HCP y0 y1 y2 y3 y4 hT S2 HPR
    generalize w3.alloc (.cells #[.slice t.G d.g.length t.gc, .slice t.P d.p.length t.pc, .slice t.A d.s.length t.c, .int .i64 d.i] 25) = w4 at HR0 ⊢
    go_loopw [7] (fun iv wr => ∃ (j : Nat) (y : Ma), j ≤ d.s.length ∧ iv = .int .i64 j ∧ Hid (Ry13 w B1 T w2.heap.size T t d Ap cp j y wr)) (fun iv _ => d.s.length - (intOf iv).toNat)
    case atStart => exact ⟨0, t, by omega, rfl, HR0⟩
    case round =>
      clear HR0
      obtain ⟨j, yj, hj, rfl, HR⟩ := hrel
      rename World => wr
      by_cases h1 : j < d.s.length
      · obtain ⟨g, kk, z, hA, hk, hg1, hg2, hz, hzj, hat, hok, hoz, hfr⟩ := rows13 HR.out.2.2.2.1 HR.out.2.2.2.2.1 (j := j) (by rw [sm13_len]; exact h1)
        have hzd : d.s[j]? = some (ze z) := by
          have h2 := sm13_at (d := d) (j := j) h1
          rw [List.getElem?_eq_getElem (by rw [sm13_len]; exact h1), if_neg (by omega)] at h2
          injection h2 with h2
          dsimp only at hzj
          rw [hzj, h2, hd13, co11, List.getElem?_eq_getElem h1]
          rfl
        have HPT := Lib.hid (HR.out.put h1 hA hk hg1 hg2 hz hzd hat hok hoz)
        obtain ⟨gp, hgp⟩ := HR.out.2.2.2.2.2.1.blk13 (by omega)
        subst hgp
        have p0 := HR.out.2.2.2.2.2.1.cell13 h1
        have x3 := hat.2.2.2.1
        dsimp only at x3
        have xf := hfr (j * 8 + 3)
        obtain ⟨d0, d1, d2, d3, d4⟩ := HR.out.2.2.1
        have hAt : t.A = some ⟨g, 0, none⟩ := by rw [← HR.out.2.2.2.2.2.2.2.2.2.1]; exact hA
        rw [hAt] at d3
        clear hA hk hg1 hg2 hz hzj hat hok hoz hfr hzd hAt
        go_upto_region 8 with (fail)
        go_region
        go_wp2_with fail
        go_roundw
        case rel =>
          obtain ⟨y', h⟩ := HPT.out
          exact ⟨j + 1, y', by omega, by go_num, Lib.hid h.drew⟩
        case measure => simp [intOf]; omega
      · obtain rfl : j = d.s.length := by omega
        have HF : Hid (Db (put4 wr (B1 + 1) t d) (B1 + 1) yj (sy13 d (pu13 d)) ∧ Hq (put4 wr (B1 + 1) t d) yj (sy13 d (pu13 d)) ∧ Ow (put4 wr (B1 + 1) t d) w.heap.size (put4 wr (B1 + 1) t d).heap.size yj (sy13 d (pu13 d)) ∧ Below w.heap.size w (put4 wr (B1 + 1) t d)) := Lib.hid (by
          obtain ⟨r1, r2, r3, r4, r5, r6, r7, r8, r9, eA, eG, eP, eg, ep, ec⟩ := HR.out
          rw [sm13_all] at r4 r5
          obtain ⟨q1, q2⟩ := put13 r4 r5 r8 t d
          have hdb := put4_db r2.2 t d
          refine ⟨?_, q1, q2.mono (by omega) ?_, put4_below r1 (by omega) t d⟩
          · unfold Db at hdb ⊢
            rw [eA, eG, eP, eg, ep, ec, sy13_len]
            exact hdb
          · rw [size_put4]
            have := r3.1
            omega)
        obtain ⟨d0, d1, d2, d3, d4⟩ := HR.out.2.2.1
        obtain ⟨⟨e0, ef⟩, ⟨e1, e2, e3, e4, e5⟩⟩ := HR.out.2.1
        have f0 := ef 0
        have f1 := ef 1
        have f2 := ef 2
        have f3 := ef 3
        clear ef
        go_wp2_with fail
        obtain ⟨h1, h2, h3, h4⟩ := HF.out
        exact rsay_end _ _ (B1 + 1) yj (sy13 d (pu13 d)) 0 rfl rfl h1 _ (by rw [HT.out]; exact ⟨_, rfl, h2, h3, h4⟩)
end Go.Proofs.Ytimjnmkfbdijeaa
