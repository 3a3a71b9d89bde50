/-
  Ed, Ee, Ef: in one text.
-/
import Derived.Test.YtfbabbddiplgkaaLea
import Derived.Test.YtfbabbddiplgkaaLu
import Derived.Test.YtfbabbddiplgkaaTi
import Derived.Test.YtfbabbddiplgkaaLk
import Derived.Test.YtfbabbddiplgkaaNi
import Derived.Test.YtfbabbddiplgkaaLm
namespace Go.Proofs.Ytfbabbddiplgkaa
open Go.RowKit
set_option maxRecDepth 100000
set_option linter.unusedSimpArgs false
set_option linter.unusedVariables false

theorem r11has_v (A : Option Addr) (c m : Nat) (l : List Int) (n : Int) (w : World) (hr : Rn w A c l) (hm : l.length = m) : Calls Try.prog 28 #[.slice A m c, .int .i64 n] w fun e w' => e = .returned (.bool (l.contains n)) ∧ w = w' := by
  have hm9 : m ≤ 9223372036854775807 := by have := hr.2.1; have := hr.1; unfold maxLen at *; omega
  have HR := Lib.hid hr
  have HM := Lib.hid hm
  clear hr hm
  go_enter Try.func28, Try.ntmps28
  go_wp2_with fail
  go_loopw [5] (fun iv wq => ∃ i : Nat, i ≤ m ∧ iv = .int .i64 i ∧ w = wq ∧ Hid ((l.take i).contains n = false)) (fun iv _ => m - (intOf iv).toNat)
  case atStart => exact ⟨0, by omega, rfl, rfl, Lib.hid (by simp)⟩
  case round =>
    obtain ⟨i, hi, rfl, rfl, HT⟩ := hrel
    by_cases h1 : i < m
    · obtain ⟨x, hx⟩ : ∃ x, l[i]? = some x := ⟨_, List.getElem?_eq_getElem (by rw [HM.out]; exact h1)⟩
      obtain ⟨ad, hA, y0⟩ := HR.out.at_ hx
      subst hA
      have HX := Lib.hid hx
      clear hx
      by_cases hxn : x = n
      · have HE : Hid (l.contains n = true) := Lib.hid (by rw [List.contains_iff_mem, ← hxn]; exact List.mem_of_getElem? HX.out)
        have e : (x == n) = true := by simpa using hxn
        clear hxn
        go_wp2_with fail
        go_ret
        exact ⟨by rw [HE.out]; rfl, rfl⟩
      · have e : (x == n) = false := by simpa using hxn
        have HT2 : Hid ((l.take (i + 1)).contains n = false) := Lib.hid (by
          have h := HT.out
          rw [List.take_add_one, HX.out]
          rw [← Bool.not_eq_true, List.contains_iff_mem] at h ⊢
          simp only [Option.toList_some, List.mem_append, List.mem_singleton, not_or]
          exact ⟨h, fun e => hxn e.symm⟩)
        clear hxn
        go_wp2_with fail
        go_roundw
        case rel => exact ⟨i + 1, by omega, by go_num, (by first | trivial | rfl), HT2⟩
        case measure => simp [intOf]; omega
    · obtain rfl : m = i := by omega
      have HE : Hid (l.contains n = false) := Lib.hid (by have h := HT.out; rwa [List.take_of_length_le (by rw [HM.out]; exact Nat.le_refl _)] at h)
      go_wp2_with fail
      go_ret
      exact ⟨by rw [HE.out]; rfl, rfl⟩
set_option maxHeartbeats 4000000 in
theorem r11calls_v (x : Mc) (h : Mh) (L : List Ins) (n : Int) (w : World) (hr : Ri w x.D x.e L) (hk : L.length = x.k) : Calls Try.prog 27 #[mv x h, .int .i64 n] w fun e w' => e = .returned (.bool (cl11 L n)) ∧ Below w.heap.size w w' := by
  obtain ⟨XA, xc, XB, xd, XD, m, xe⟩ := x
  dsimp only at hr hk
  have hm9 : m ≤ 9223372036854775807 := by have := hr.len; omega
  have HM := Lib.hid hk
  have S0 := Lib.hid ((((Sx.start w).add (fT XD xe L) hr).mkM ⟨XA, xc, XB, xd, XD, m, xe⟩ h))
  obtain ⟨B, hB⟩ : ∃ B, w.heap.size = B := ⟨_, rfl⟩
  rw [hB] at S0
  clear hr hk
  go_enter Try.func27, Try.ntmps27
  go_upto_region 1 with (fail)
  change Code.wp _ _ _ _ (w.alloc (hcel ⟨XA, xc, XB, xd, XD, m, xe⟩ h))
  generalize w.alloc (hcel ⟨XA, xc, XB, xd, XD, m, xe⟩ h) = w1 at S0 ⊢
  have S1 := S0
  clear S0
  obtain ⟨-, ⟨m0, m1, m2, m3, m4, m5, m6, m7, m8⟩, -⟩ := S1.out
  dsimp only at m8
  clear hB
  go_wp2_with fail
  go_loopw [5] (fun iv wq => ∃ i : Nat, i ≤ m ∧ iv = .int .i64 i ∧ w1 = wq ∧ Hid (cl11 (L.take i) n = false)) (fun iv _ => m - (intOf iv).toNat)
  case atStart => exact ⟨0, by omega, rfl, rfl, Lib.hid (by simp [cl11])⟩
  case round =>
    obtain ⟨i, hi, rfl, rfl, HT⟩ := hrel
    by_cases h1 : i < m
    · obtain ⟨⟨o, a, z⟩, hx⟩ : ∃ x, L[i]? = some x := ⟨_, List.getElem?_eq_getElem (by rw [HM.out]; exact h1)⟩
      obtain ⟨al, hA, k1, k2, k3⟩ := S1.out.2.2.1.at9 hx
      subst hA
      have HX := Lib.hid hx
      clear hx k3
      have HS : Hid (cl11 (L.take (i + 1)) n = (o == 30 && a == n)) := Lib.hid (by
        have h := HT.out
        unfold cl11 at h ⊢
        rw [List.take_add_one, HX.out, List.any_append, h]
        simp)
      by_cases ho : o = 30
      · by_cases ha : a = n
        · have HE : Hid (cl11 L n = true) := Lib.hid (by
            unfold cl11
            rw [List.any_eq_true]
            exact ⟨_, List.mem_of_getElem? HX.out, by simp [ho, ha]⟩)
          have e1 : (o == 30) = true := by simpa using ho
          have e2 : (a == n) = true := by simpa using ha
          clear ho ha
          go_wp2_with fail
          go_ret
          exact ⟨by rw [HE.out]; rfl, S1.out.1⟩
        · have HT2 : Hid (cl11 (L.take (i + 1)) n = false) := Lib.hid (by rw [HS.out]; simp [ha])
          have e1 : (o == 30) = true := by simpa using ho
          have e2 : (a == n) = false := by simpa using ha
          clear ho ha
          go_wp2_with fail
          go_roundw
          case rel => exact ⟨i + 1, by omega, by go_num, (by first | trivial | rfl), HT2⟩
          case measure => simp [intOf]; omega
      · have HT2 : Hid (cl11 (L.take (i + 1)) n = false) := Lib.hid (by rw [HS.out]; simp [ho])
        have e1 : (o == 30) = false := by simpa using ho
        clear ho
        go_wp2_with fail
        go_roundw
        case rel => exact ⟨i + 1, by omega, by go_num, (by first | trivial | rfl), HT2⟩
        case measure => simp [intOf]; omega
    · obtain rfl : m = i := by omega
      have HE : Hid (cl11 L n = false) := Lib.hid (by have h := HT.out; rwa [List.take_of_length_le (by rw [HM.out]; exact Nat.le_refl _)] at h)
      go_wp2_with fail
      go_ret
      exact ⟨by rw [HE.out]; rfl, S1.out.1⟩
theorem are11_v (A B : Option Addr) (c d n m : Nat) (l k : List Int) (w : World) (hr : Rn w A c l) (hs : Rn w B d k) (hn : l.length = n) (hm : k.length = m) : Calls Try.prog 23 #[.slice A n c, .slice B m d] w fun e w' => e = .returned (.bool (l == k)) ∧ Below w.heap.size w w' := by
  have hn9 : n ≤ 9223372036854775807 := by have := hr.2.1; have := hr.1; unfold maxLen at *; omega
  have hm9 : m ≤ 9223372036854775807 := by have := hs.2.1; have := hs.1; unfold maxLen at *; omega
  have HR := Lib.hid hr
  have HS := Lib.hid hs
  have HN := Lib.hid hn
  have HM := Lib.hid hm
  clear hr hs hn hm
  obtain ⟨v, hv⟩ : ∃ v, (l == k) = v := ⟨_, rfl⟩
  have HV := Lib.hid hv
  rw [hv]
  clear hv
  by_cases hl : n = m
  · subst hl
    go_enter Try.func23, Try.ntmps23
    go_wp2_with fail
    go_loopw [5] (fun iv wq => ∃ i : Nat, i ≤ n ∧ iv = .int .i64 i ∧ Hid (Below w.heap.size w wq) ∧ Hid (l.take i = k.take i)) (fun iv _ => n - (intOf iv).toNat)
    case atStart => exact ⟨0, by omega, rfl, Lib.hid (Below.refl _ _), Lib.hid rfl⟩
    case round =>
      obtain ⟨i, hi, rfl, HB, HT⟩ := hrel
      by_cases h1 : i < n
      · obtain ⟨x, hx⟩ : ∃ x, l[i]? = some x := ⟨_, List.getElem?_eq_getElem (by rw [HN.out]; exact h1)⟩
        obtain ⟨y, hy⟩ : ∃ y, k[i]? = some y := ⟨_, List.getElem?_eq_getElem (by rw [HM.out]; exact h1)⟩
        obtain ⟨ad, hA, y0⟩ := (HR.out.keep HB.out).at_ hx
        subst hA
        obtain ⟨bd, hB, y1⟩ := (HS.out.keep HB.out).at_ hy
        subst hB
        have HX := Lib.hid hx
        have HY := Lib.hid hy
        clear hx hy
        by_cases hxy : x = y
        · have HT2 : Hid (l.take (i + 1) = k.take (i + 1)) := Lib.hid (by rw [List.take_add_one, List.take_add_one, HX.out, HY.out, HT.out, hxy])
          have e : (x != y) = false := by simpa using hxy
          clear hxy
          go_wp2_with fail
          go_quiet (fail)
          go_wp2_with fail
          go_roundw
          case rel => exact ⟨i + 1, by omega, by go_num, Lib.hid (below_draws HB.out _), HT2⟩
          case measure => simp [intOf]; omega
        · have HE : Hid (v = false) := Lib.hid (by
            rw [← HV.out]
            refine beq_no fun h => hxy ?_
            have h2 := HX.out
            rw [h, HY.out] at h2
            exact (Option.some.inj h2).symm)
          have e : (x != y) = true := by simpa using hxy
          clear hxy
          go_wp2_with fail
          go_quiet (fail)
          go_wp2_with fail
          go_ret
          exact ⟨by rw [HE.out]; rfl, below_draws HB.out _⟩
      · obtain rfl : n = i := by omega
        have HE : Hid (v = true) := Lib.hid (by
          have h := HT.out
          rw [List.take_of_length_le (by rw [HN.out]; exact Nat.le_refl _), List.take_of_length_le (by rw [HM.out]; exact Nat.le_refl _)] at h
          rw [← HV.out, h]
          simp)
        go_wp2_with fail
        go_ret
        exact ⟨by rw [HE.out]; rfl, HB.out⟩
  · have HE : Hid (v = false) := Lib.hid (by
      rw [← HV.out]
      refine beq_no fun h => hl ?_
      rw [← HN.out, ← HM.out, h])
    have e : ((n : Int) != m) = true := by simp; omega
    clear hl
    go_enter Try.func23, Try.ntmps23
    go_wp2_with fail
    go_ret
    exact ⟨by rw [HE.out]; rfl, Below.refl _ _⟩
end Go.Proofs.Ytfbabbddiplgkaa
namespace Go.Proofs.Ytfbabbddiplgkaa
open Go.RowKit
set_option maxRecDepth 100000
set_option linter.unusedSimpArgs false
set_option linter.unusedVariables false

/-- What tells numbers and an error. -/
def Ns11 (w w' : World) (T : List Int × Int) (e : Ending) : Prop := ∃ A' c', e = .returned (.tuple #[.slice A' T.1.length c', .int .i64 T.2]) ∧ w'.ownsRow w.heap.size 3 1 (.slice A' T.1.length c') T.1.length (ci9 T.1) ∧ Below w.heap.size w w'
theorem Ns11.err {w w' : World} {T : List Int × Int} {e : Int} (hT : T = ([], e)) (hb : Below w.heap.size w w') : Ns11 w w' T (.returned (.tuple #[.slice none 0 0, .int .i64 e])) := by
  subst hT
  exact ⟨none, 0, rfl, World.ownsRow_nil _ _ _ _, hb⟩
theorem rn_one11 (w : World) (x : Int) : Rn (w.alloc (.cells #[.int .i64 x] 3)) (some ⟨w.heap.size, 0, none⟩) 1 [x] :=
  ⟨Nat.le_refl _, by unfold maxLen; omega, .inr ⟨_, rfl, fun i y hy => by
    match i, hy with
    | 0, hy =>
      simp at hy
      subst hy
      simp [go_sem, Addr.add]⟩⟩
theorem fil_succ11 (f : Nat → Bool) (j : Nat) : ns11 ((List.range (j + 1)).filter f) = ns11 ((List.range j).filter f) ++ (if f j then [(j : Int)] else []) := by
  rw [List.range_succ, List.filter_append, ns11, List.map_append]
  cases h : f j <;> simp [h]
theorem fil_len11 (f : Nat → Bool) (j : Nat) : (ns11 ((List.range j).filter f)).length ≤ j := by
  rw [List.length_map]
  have := List.length_filter_le f (List.range j)
  rw [List.length_range] at this
  exact this
set_option maxHeartbeats 8000000 in
theorem r11whom_v (y : Ma) (d : Md) (k : Int) (w : World) (hq : Hq w y d) (bs : d.s.length ≤ 1000) : Calls Try.prog 9 #[dv y d, .int .i64 k] w fun e w' => Ns11 w w' (wh11 d k) e := by
  obtain ⟨G, gc, P, pc, AA, cc, Z⟩ := y
  have hzl := hq.zlen
  dsimp only at hzl
  obtain ⟨sn, hsn⟩ : ∃ sn, d.s.length = sn := ⟨_, rfl⟩
  have HSN := Lib.hid hsn
  rw [hsn] at bs
  have S0 := Lib.hid ((((Sx.start w).add (fQm ⟨G, gc, P, pc, AA, cc, Z⟩ d) hq).mkD ⟨G, gc, P, pc, AA, cc, Z⟩ d))
  have HZL := Lib.hid (hzl.trans hsn)
  obtain ⟨T, hT⟩ : ∃ T, wh11 d k = T := ⟨_, rfl⟩
  have HT := Lib.hid hT
  rw [hT]
  obtain ⟨B, hB⟩ : ∃ B, w.heap.size = B := ⟨_, rfl⟩
  have HBB := Lib.hid hB
  rw [hB] at S0
  clear hq hT hzl hsn
  go_enter Try.func9, Try.ntmps9
  go_upto_region 1 with (fail)
  change Code.wp _ _ _ _ (w.alloc (dcel ⟨G, gc, P, pc, AA, cc, Z⟩ d))
  generalize w.alloc (dcel ⟨G, gc, P, pc, AA, cc, Z⟩ d) = w1 at S0 ⊢
  have S1 := S0
  clear S0 hB
  obtain ⟨-, ⟨d0, d1, d2, d3, d4⟩, -⟩ := S1.out
  dsimp only at d1 d2 d3
  rw [HSN.out] at d3
  by_cases hk0 : k < 0
  · have HE := Lib.hid (Ns11.err (w := w) (w' := w1) (T := T) (e := 2) (by rw [← HT.out, wh11, if_pos (.inl hk0)]) S1.out.1)
    go_wp2_with fail
    go_ret2
    exact HE.out
  by_cases hks : (sn : Int) ≤ k
  · have HE := Lib.hid (Ns11.err (w := w) (w' := w1) (T := T) (e := 2) (by rw [← HT.out, wh11, if_pos (.inr (by rw [HSN.out]; exact hks))]) S1.out.1)
    go_wp2_with fail
    go_ret2
    exact HE.out
  obtain ⟨k, rfl⟩ : ∃ k' : Nat, k = k' := ⟨k.toNat, by omega⟩
  have hks2 : k < sn := by omega
  obtain ⟨ad8, hA8, hat, hok⟩ := S1.out.2.2.1.2.2.1.at_ (i := k) (by rw [HZL.out]; exact hks2)
  have hme := S1.out.2.2.1.zat (i := k) (by rw [HZL.out]; exact hks2) (by rw [HSN.out]; exact hks2)
  dsimp only at hA8 hat hok hme
  obtain ⟨zz, hzz⟩ : ∃ zz, Z[k]'(by rw [HZL.out]; exact hks2) = zz := ⟨_, rfl⟩
  rw [hzz] at hat hok hme
  obtain ⟨⟨XA, xc, XB, xd, XD, xk, xe⟩, h, L⟩ := zz
  subst hA8
  have HCO : Hid (co11 d k = L) := Lib.hid (by rw [co11, List.getElem?_eq_getElem (by rw [HSN.out]; exact hks2), hme]; rfl)
  have HTM : Hid (T = if bd11 L sn = true then ([], 2) else (ns11 ((List.range sn).filter (e11 d k)), 0)) := Lib.hid (by
    rw [← HT.out, wh11, if_neg (by rw [HSN.out]; omega), Int.toNat_natCast, HCO.out, HSN.out])
  obtain ⟨hH, hRi, hxk⟩ := hok
  dsimp only at hH hRi hxk
  obtain ⟨g0, g1, g2, g3, g4, g5, g6, g7⟩ := hat
  dsimp only at g0 g1 g2 g3 g4 g5 g6 g7
  obtain ⟨m, hm⟩ : ∃ m, L.length = m := ⟨_, rfl⟩
  obtain rfl : m = xk := by rw [← hm]; exact hxk
  have HLm := Lib.hid hm
  have hm9 : m ≤ 9223372036854775807 := by have := hRi.len; omega
  have hks3 : k < sn := hks2
  clear hzz hme hks hxk hm
  go_upto_region 4 with (fail)
  have S2 := Lib.hid ((S1.out.add (fT XD xe L) hRi).mkM ⟨XA, xc, XB, xd, XD, m, xe⟩ h)
  obtain ⟨D, hD⟩ : ∃ D, w1.heap.size = D := ⟨_, rfl⟩
  rw [hD] at S2 ⊢
  have S2 : Hid (Sx w (w1.alloc (hcel ⟨XA, xc, XB, xd, XD, m, xe⟩ h)) [fM D ⟨XA, xc, XB, xd, XD, m, xe⟩ h, fT XD xe L, fD B ⟨G, gc, P, pc, (some ad8), cc, Z⟩ d, fQm ⟨G, gc, P, pc, (some ad8), cc, Z⟩ d]) := Lib.hid S2.out
  change Code.wp _ _ _ _ (w1.alloc (hcel ⟨XA, xc, XB, xd, XD, m, xe⟩ h))
  generalize w1.alloc (hcel ⟨XA, xc, XB, xd, XD, m, xe⟩ h) = w2 at S2 ⊢
  clear g0 g1 g2 g3 g4 g5 g6 g7 d0 d1 d2 d3 d4 hD S1 hRi hH
  go_wp2_with fail
  go_loopw [7] (fun iv wq => ∃ i : Nat, i ≤ m ∧ iv = .int .i64 i ∧ Hid (bd11 (L.take i) sn = false) ∧ Hid (Sx w wq [fM D ⟨XA, xc, XB, xd, XD, m, xe⟩ h, fT XD xe L, fD B ⟨G, gc, P, pc, (some ad8), cc, Z⟩ d, fQm ⟨G, gc, P, pc, (some ad8), cc, Z⟩ d])) (fun iv _ => m - (intOf iv).toNat)
  case atStart => exact ⟨0, by omega, rfl, Lib.hid (by simp [bd11]), S2⟩
  case round =>
    clear S2
    obtain ⟨i, hi, rfl, HI, SQ⟩ := hrel
    rename World => wq
    obtain ⟨-, ⟨m0, m1, m2, m3, m4, m5, m6, m7, m8⟩, -, ⟨d0, d1, d2, d3, d4⟩, -⟩ := SQ.out
    dsimp only at m1 m2 m8 d1 d2 d3
    rw [HSN.out] at d3
    by_cases h1 : i < m
    · obtain ⟨⟨o, a, z⟩, hx⟩ : ∃ x, L[i]? = some x := ⟨_, List.getElem?_eq_getElem (by rw [HLm.out]; exact h1)⟩
      obtain ⟨al, hA, k1, k2, k3⟩ := SQ.out.2.2.1.at9 hx
      subst hA
      have HX := Lib.hid hx
      have HS : Hid (bd11 (L.take (i + 1)) sn = (o == 30 && (decide (a < 0) || decide ((sn : Int) ≤ a)))) := Lib.hid (by
        have h := HI.out
        unfold bd11 at h ⊢
        rw [List.take_add_one, HX.out, List.any_append, h]
        simp)
      have HBX : Hid ((o == 30 && (decide (a < 0) || decide ((sn : Int) ≤ a))) = true → T = ([], 2)) := Lib.hid fun hb => by
        have : bd11 L sn = true := by
          unfold bd11
          rw [List.any_eq_true]
          exact ⟨_, List.mem_of_getElem? HX.out, hb⟩
        rw [HTM.out, if_pos this]
      clear hx k3
      by_cases ho : o = 30
      · have e1 : (o == 30) = true := by simpa using ho
        by_cases ha : a < 0
        · have HE := Lib.hid (Ns11.err (w := w) (w' := wq) (T := T) (e := 2) (HBX.out (by simp [ho, ha])) SQ.out.1)
          have e2 : decide (a < 0) = true := by simpa using ha
          have HEB := Lib.hid (fun q => Ns11.err (w := w) (w' := wq.drewN q) (T := T) (e := 2) (HBX.out (by simp [ho, ha])) (below_draws SQ.out.1 q))
          clear ho
          go_wp2_with fail
          go_quiet (fail)
          go_wp2_with fail
          go_ret2
          exact HEB.out _
        · have e2 : decide (a < 0) = false := by simpa using ha
          by_cases hs : (sn : Int) ≤ a
          · have e3 : decide ((sn : Int) ≤ a) = true := by simpa using hs
            have HEB := Lib.hid (fun q => Ns11.err (w := w) (w' := wq.drewN q) (T := T) (e := 2) (HBX.out (by simp [ho, hs])) (below_draws SQ.out.1 q))
            clear ho
            go_wp2_with fail
            go_quiet (fail)
            go_wp2_with fail
            go_ret2
            exact HEB.out _
          · have e3 : decide ((sn : Int) ≤ a) = false := by simpa using hs
            have HI2 : Hid (bd11 (L.take (i + 1)) sn = false) := Lib.hid (by rw [HS.out, e2, e3]; simp)
            have SQ2 := Lib.hid (fun q => SQ.out.drewN q)
            clear ho
            go_wp2_with fail
            go_quiet (fail)
            go_wp2_with fail
            go_roundw
            case rel => exact ⟨i + 1, by omega, by go_num, HI2, Lib.hid (SQ2.out _)⟩
            case measure => simp [intOf]; omega
      · have e1 : (o == 30) = false := by simpa using ho
        have HI2 : Hid (bd11 (L.take (i + 1)) sn = false) := Lib.hid (by rw [HS.out, e1]; simp)
        have SQ2 := Lib.hid (fun q => SQ.out.drewN q)
        clear ho
        go_wp2_with fail
        go_quiet (fail)
        go_wp2_with fail
        go_roundw
        case rel => exact ⟨i + 1, by omega, by go_num, HI2, Lib.hid (SQ2.out _)⟩
        case measure => simp [intOf]; omega
    · obtain rfl : m = i := by omega
      have HNB : Hid (T = (ns11 ((List.range sn).filter (e11 d k)), 0)) := Lib.hid (by
        have h := HI.out
        rw [List.take_of_length_le (by rw [HLm.out]; exact Nat.le_refl _)] at h
        rw [HTM.out, if_neg (by rw [h]; simp)])
      go_wp2_with fail
      clear m0 m1 m2 m3 m4 m5 m6 m7 m8 d0 d1 d2 d3 d4
      have HWS : Hid (w.heap.size ≤ wq.heap.size) := Lib.hid SQ.out.1.size
      go_loopw [8, 9] (fun lv jv wz => ∃ (j : Nat) (A1 : Option Addr) (c1 n1 : Nat), j ≤ sn ∧ jv = .int .i64 j ∧ lv = .slice A1 n1 c1 ∧ n1 ≤ j ∧ Hid (wz.ownsRow wq.heap.size 3 1 (.slice A1 n1 c1) n1 (ci9 (ns11 ((List.range j).filter (e11 d k))))) ∧ Hid (Below wq.heap.size wq wz)) (fun _ jv _ => sn - (intOf jv).toNat)
      case atStart => exact ⟨0, none, 0, 0, by omega, rfl, rfl, by omega, Lib.hid (World.ownsRow_nil _ _ _ _), Lib.hid (Below.refl _ _)⟩
      case round =>
        obtain ⟨j, A1, c1, n1, hj, rfl, rfl, hn1, HO, HB⟩ := hrel
        rename World => wz
        have SZ := Lib.hid (SQ.out.call HB.out)
        obtain ⟨-, ⟨m0, m1, m2, m3, m4, m5, m6, m7, m8⟩, -, ⟨d0, d1, d2, d3, d4⟩, -⟩ := SZ.out
        dsimp only at m1 m2 m8 d1 d2 d3
        rw [HSN.out] at d3
        by_cases h1 : j < sn
        · have HCL := Lib.hid (r11calls_v ⟨XA, xc, XB, xd, XD, m, xe⟩ h L j wz SZ.out.2.2.1 HLm.out)
          obtain ⟨v, hv⟩ : ∃ v, cl11 L j = v := ⟨_, rfl⟩
          have HEV : Hid (e11 d k j = v) := Lib.hid (by rw [e11, HCO.out]; exact hv)
          rw [hv] at HCL
          clear hv
          go_wp2_with fail
          refine HCL.out.mono ?_
          rintro r w9 ⟨rfl, hb⟩
          have HO9 := Lib.hid (own_below HO.out hb (Nat.le_refl _))
          have HB9 := Lib.hid (below_on HB.out hb)
          clear hb HCL HO HB SZ m0 m1 m2 m3 m4 m5 m6 m7 m8 d0 d1 d2 d3 d4
          have HFS := Lib.hid (fil_succ11 (e11 d k) j)
          rw [Hid, HEV.out] at HFS
          have HFS := Lib.hid HFS
          cases v with
          | false =>
            have HO8 : Hid (w9.ownsRow wq.heap.size 3 1 (.slice A1 n1 c1) n1 (ci9 (ns11 ((List.range (j + 1)).filter (e11 d k))))) := Lib.hid (by
              rw [HFS.out]
              simpa using HO9.out)
            go_wp2_with fail
            go_roundw
            case rel => exact ⟨j + 1, A1, c1, n1, by omega, by go_num, rfl, by omega, HO8, HB9⟩
            case measure => simp [intOf]; omega
          | true =>
            go_wp2_with (at_builtin; refine wpList_append_niN _ rfl (.tmp 69) (.tmp 71) rfl wq.heap.size _ n1 (ns11 ((List.range j).filter (e11 d k))) rfl (HO9.out.alloc _) _ 1 1 [(j : Int)] rfl (rn_one11 w9 j) rfl (by omega) (by have := HB9.out.size; simp; omega) ?_)
            intro A3 c3 w10 ho hb
            have HO8 : Hid (w10.ownsRow wq.heap.size 3 1 (.slice A3 (n1 + 1) c3) (n1 + 1) (ci9 (ns11 ((List.range (j + 1)).filter (e11 d k))))) := Lib.hid (by
              rw [HFS.out]
              exact ho)
            have HB10 : Hid (Below wq.heap.size wq w10) := Lib.hid (HB9.out.trans ((new1.mono HB9.out.size).trans hb))
            clear ho hb HO9 HB9
            go_wp2_with fail
            go_roundw
            case rel => exact ⟨j + 1, A3, c3, n1 + 1, by omega, by go_num, rfl, by omega, HO8, HB10⟩
            case measure => simp [intOf]; omega
        · obtain rfl : sn = j := by omega
          have HOF := Lib.hid (own_base HO.out HWS.out)
          have hnl : n1 = (ns11 ((List.range sn).filter (e11 d k))).length := by
            have := HO.out.1
            simp only [ci9, List.length_map] at this ⊢
            omega
          have HNL := Lib.hid hnl
          clear hnl
          have HBW := Lib.hid SZ.out.1
          go_wp2_with fail
          go_ret2
          exact ⟨A1, c1, by rw [HNB.out, ← HNL.out]; rfl, by rw [HNB.out]; dsimp only; rw [← HNL.out]; exact HOF.out, HBW.out⟩
end Go.Proofs.Ytfbabbddiplgkaa
namespace Go.Proofs.Ytfbabbddiplgkaa
open Go.RowKit
set_option maxRecDepth 100000
set_option linter.unusedSimpArgs false
set_option linter.unusedVariables false

def slen11 : Value → Nat
  | .slice _ n _ => n
  | _ => 0
theorem ns11_has (o : List Nat) (j : Nat) : (ns11 o).contains (j : Int) = o.contains j := by
  have h : (ns11 o).contains (j : Int) = true ↔ o.contains j = true := by
    rw [List.contains_iff_mem, List.contains_iff_mem, ns11, List.mem_map]
    exact ⟨fun ⟨i, hi, he⟩ => by have : i = j := by omega
                                 rwa [← this], fun hj => ⟨j, hj, rfl⟩⟩
  cases h1 : o.contains j with
  | true => exact h.2 h1
  | false =>
    cases h2 : (ns11 o).contains (j : Int) with
    | false => rfl
    | true => rw [h.1 h2] at h1; cases h1
theorem rd11_ns {e : Nat → Nat → Bool} {n : Nat} {o : List Nat} {k : Nat} : rd11 e n o k = (!(ns11 o).contains (k : Int) && (ns11 ((List.range n).filter (e k))).all fun x => (ns11 o).contains x) := by
  rw [ns11_has, rd11]
  congr 1
  have h : ((List.range n).all fun j => !e k j || o.contains j) = true ↔ ((ns11 ((List.range n).filter (e k))).all fun x => (ns11 o).contains x) = true := by
    simp only [List.all_eq_true, ns11, List.mem_map, List.mem_filter, List.mem_range]
    constructor
    · rintro h1 x ⟨j, ⟨hj, he⟩, rfl⟩
      have h2 := h1 j hj
      rw [he] at h2
      have h3 := ns11_has o j
      rw [ns11] at h3
      rw [h3]
      simpa using h2
    · intro h1 j hj
      cases he : e k j with
      | false => rfl
      | true =>
        have h2 := h1 j ⟨j, ⟨hj, he⟩, rfl⟩
        have h3 := ns11_has o j
        rw [ns11] at h3
        rw [h3] at h2
        simpa using h2
  generalize ((List.range n).all fun j => !e k j || o.contains j) = a at h ⊢
  generalize ((ns11 ((List.range n).filter (e k))).all fun x => (ns11 o).contains x) = b at h ⊢
  cases a <;> cases b <;> simp at h <;> rfl
theorem nx11_of {e : Nat → Nat → Bool} {n : Nat} {o : List Nat} {k : Nat} (h1 : ∀ i, i < k → rd11 e n o i = false) (h2 : rd11 e n o k = true) (hk : k < n) : nx11 e n o = some k := by
  unfold nx11
  rw [List.find?_range_eq_some]
  exact ⟨h2, List.mem_range.2 hk, fun i hi => by rw [h1 i hi]; rfl⟩
theorem nx11_no {e : Nat → Nat → Bool} {n : Nat} {o : List Nat} (h1 : ∀ i, i < n → rd11 e n o i = false) : nx11 e n o = none := by
  unfold nx11
  rw [List.find?_eq_none]
  intro i hi
  rw [h1 i (List.mem_range.1 hi)]
  decide
theorem all_take11 {l : List Int} {i : Nat} {x : Int} {f : Int → Bool} (hx : l[i]? = some x) : (l.take (i + 1)).all f = ((l.take i).all f && f x) := by
  rw [List.take_add_one, hx, List.all_append]
  simp
set_option maxHeartbeats 16000000 in
theorem r11order_v (y : Ma) (d : Md) (w : World) (hq : Hq w y d) (bs : d.s.length ≤ 1000) : Calls Try.prog 10 #[dv y d] w fun e w' => Ns11 w w' (ro11 d) e := by
  obtain ⟨sn, hsn⟩ : ∃ sn, d.s.length = sn := ⟨_, rfl⟩
  have HSN := Lib.hid hsn
  have HBS := Lib.hid bs
  rw [hsn] at bs
  have S0 := Lib.hid ((((Sx.start w).add (fQm y d) hq).mkD y d))
  obtain ⟨T, hT⟩ : ∃ T, ro11 d = T := ⟨_, rfl⟩
  have HT := Lib.hid hT
  rw [hT]
  obtain ⟨B, hB⟩ : ∃ B, w.heap.size = B := ⟨_, rfl⟩
  rw [hB] at S0
  clear hq hT hsn
  go_enter Try.func10, Try.ntmps10
  go_upto_region 1 with (fail)
  change Code.wp _ _ _ _ (w.alloc (dcel y d))
  generalize w.alloc (dcel y d) = w1 at S0 ⊢
  have S1 := S0
  clear S0 hB
  go_wp2_with fail
  go_loopw [4] (fun iv wq => ∃ i : Nat, i ≤ sn ∧ iv = .int .i64 i ∧ Hid (∀ k, k < i → bd11 (co11 d k) sn = false) ∧ Hid (Sx w wq [fD B y d, fQm y d])) (fun iv _ => sn - (intOf iv).toNat)
  case atStart => exact ⟨0, by omega, rfl, Lib.hid (fun k hk => by omega), S1⟩
  case round =>
    clear S1
    obtain ⟨i, hi, rfl, HI, SQ⟩ := hrel
    rename World => wq
    obtain ⟨-, ⟨d0, d1, d2, d3, d4⟩, -⟩ := SQ.out
    rw [HSN.out] at d3
    by_cases h1 : i < sn
    · have hwh := r11whom_v y d i wq SQ.out.2.2.1 HBS.out
      rw [dv, HSN.out] at hwh
      have HWH := Lib.hid hwh
      clear hwh
      cases hb : bd11 (co11 d i) sn with
      | true =>
        have hW : wh11 d i = ([], 2) := by rw [wh11, if_neg (by rw [HSN.out]; omega), Int.toNat_natCast, HSN.out, if_pos hb]
        rw [hW] at HWH
        have HTE : Hid (T = ([], 2)) := Lib.hid (by
          rw [← HT.out, ro11, if_pos]
          unfold ba11
          rw [List.any_eq_true]
          obtain ⟨z, hz⟩ : ∃ z, d.s[i]? = some z := ⟨_, List.getElem?_eq_getElem (by rw [HSN.out]; exact h1)⟩
          refine ⟨z, List.mem_of_getElem? hz, ?_⟩
          rw [co11, hz] at hb
          rw [HSN.out]
          exact hb)
        clear hb hW
        go_wp2_with fail
        refine HWH.out.mono ?_
        rintro r w3 ⟨A3, c3, rfl, -, hb⟩
        have HE := Lib.hid (Ns11.err HTE.out (SQ.out.call hb).1)
        clear hb HWH SQ d0 d1 d2 d3 d4
        go_wp2_with fail
        go_ret2
        exact HE.out
      | false =>
        have hW : (wh11 d i).2 = 0 := by rw [wh11, if_neg (by rw [HSN.out]; omega), Int.toNat_natCast, HSN.out, if_neg (by rw [hb]; simp)]
        have HI2 : Hid (∀ k, k < i + 1 → bd11 (co11 d k) sn = false) := Lib.hid (fun k hk => by
          by_cases hki : k = i
          · rw [hki]; exact hb
          · exact HI.out k (by omega))
        obtain ⟨W, hWW⟩ : ∃ W, wh11 d i = W := ⟨_, rfl⟩
        rw [hWW] at HWH hW
        have HW0 := Lib.hid hW
        clear hb hW hWW
        go_wp2_with fail
        refine HWH.out.mono ?_
        rintro r w3 ⟨A3, c3, rfl, -, hb⟩
        rw [HW0.out]
        have SQ2 := Lib.hid (SQ.out.call hb)
        clear hb HWH SQ d0 d1 d2 d3 d4
        go_wp2_with fail
        go_roundw
        case rel => exact ⟨i + 1, by omega, by go_num, HI2, SQ2⟩
        case measure => simp [intOf]; omega
    · obtain rfl : sn = i := by omega
      have HBA : Hid (ba11 d = false) := Lib.hid (ba11_of fun k hk => by rw [HSN.out]; exact HI.out k (by rw [← HSN.out]; exact hk))
      have HTO : Hid (T = match or11 (e11 d) sn with | some o => (ns11 o, 0) | none => ([], 110)) := Lib.hid (by rw [← HT.out, ro11, if_neg (by rw [HBA.out]; simp), HSN.out]; rfl)
      have HWS : Hid (w.heap.size ≤ wq.heap.size) := Lib.hid SQ.out.1.size
      go_wp2_with fail
      clear d0 d1 d2 d3 d4
      go_loopw [7] (fun lv wz => ∃ (o : List Nat) (A7 : Option Addr) (c7 n7 : Nat), n7 ≤ sn ∧ lv = .slice A7 n7 c7 ∧ Hid (o.length = n7) ∧ Hid (or11 (e11 d) sn = od11 (e11 d) sn (sn - n7) o) ∧ Hid (wz.ownsRow wq.heap.size 3 1 (.slice A7 n7 c7) n7 (ci9 (ns11 o))) ∧ Hid (Below wq.heap.size wq wz)) (fun lv _ => sn - slen11 lv)
      case atStart => exact ⟨[], none, 0, 0, by omega, rfl, Lib.hid rfl, Lib.hid rfl, Lib.hid (World.ownsRow_nil _ _ _ _), Lib.hid (Below.refl _ _)⟩
      case round =>
        obtain ⟨o, A7, c7, n7, hn7, rfl, HOL, HOD, HO, HB⟩ := hrel
        rename World => wz
        have SZ := Lib.hid (SQ.out.call HB.out)
        obtain ⟨-, ⟨d0, d1, d2, d3, d4⟩, -⟩ := SZ.out
        rw [HSN.out] at d3
        by_cases h1 : n7 < sn
        · go_wp2_with fail
          clear d0 d1 d2 d3 d4
          go_loopw [8, 9] (fun nv kv wx => ∃ (kk : Nat) (nn : Int), kk ≤ sn ∧ kv = .int .i64 kk ∧ nv = .int .i64 nn ∧ Hid (nn = -1 ∧ (∀ i, i < kk → rd11 (e11 d) sn o i = false) ∨ ∃ j : Nat, j < sn ∧ nn = j ∧ nx11 (e11 d) sn o = some j) ∧ Hid (Below wz.heap.size wz wx)) (fun _ kv _ => sn - (intOf kv).toNat)
          case atStart => exact ⟨0, -1, by omega, rfl, rfl, Lib.hid (.inl ⟨rfl, fun i hi => by omega⟩), Lib.hid (Below.refl _ _)⟩
          case round =>
            obtain ⟨kk, nn, hkk, rfl, rfl, HN, HBX⟩ := hrel
            rename World => wx
            have SX := Lib.hid (SZ.out.call HBX.out)
            obtain ⟨-, ⟨d0, d1, d2, d3, d4⟩, -⟩ := SX.out
            rw [HSN.out] at d3
            by_cases h2 : kk < sn
            · by_cases h3 : nn < 0
              · skip
                obtain ⟨rfl, hall⟩ := HN.out.resolve_right (fun ⟨j, _, e, _⟩ => by omega)
                have HALL := Lib.hid hall
                have hwh := r11whom_v y d kk wx SX.out.2.2.1 HBS.out
                rw [wh11_ok HBA.out (by rw [HSN.out]; exact h2), dv, HSN.out] at hwh
                obtain ⟨W, hW⟩ : ∃ W, ns11 ((List.range sn).filter (e11 d kk)) = W := ⟨_, rfl⟩
                rw [hW] at hwh
                have HWW := Lib.hid hW
                obtain ⟨lw, hlw⟩ : ∃ lw, W.length = lw := ⟨_, rfl⟩
                have HLW := Lib.hid hlw
                have hlw9 : lw ≤ sn := by rw [← hlw, ← hW]; exact fil_len11 _ _
                have HWH := Lib.hid hwh
                clear hwh hW hall h3 HN
                go_wp2_with fail
                refine HWH.out.mono ?_
                rintro r w9 ⟨A9, c9, rfl, ho9, hb⟩
                dsimp only at ho9 ⊢
                rw [hlw] at ho9 ⊢
                have HRW : Hid (Rn w9 A9 c9 W) := Lib.hid (Rn.of_own ho9).1
                have HBX9 := Lib.hid (below_on HBX.out hb)
                have HO9 := Lib.hid (own_below HO.out HBX9.out (Nat.le_refl _))
                have HRO : Hid (Rn w9 A7 c7 (ns11 o)) := Lib.hid (Rn.of_own HO9.out).1
                have HLO : Hid ((ns11 o).length = n7) := Lib.hid (by rw [List.length_map]; exact HOL.out)
                have HHAS := Lib.hid (fun x => r11has_v A7 c7 n7 (ns11 o) x w9 HRO.out HLO.out)
                clear ho9 hb HWH HBX SX d0 d1 d2 d3 d4 hlw
                obtain ⟨v0, hv0⟩ : ∃ v, (ns11 o).contains (kk : Int) = v := ⟨_, rfl⟩
                have HV0 := Lib.hid hv0
                have HH0 := Lib.hid (HHAS.out kk)
                rw [hv0] at HH0
                clear hv0
                go_wp2_with fail
                refine HH0.out.mono ?_
                rintro r w10 ⟨rfl, rfl⟩
                clear HH0
                go_wp2_with fail
                go_loopw [12, 13] (fun rv iv wv => ∃ (i : Nat) (b : Bool), i ≤ lw ∧ iv = .int .i64 i ∧ rv = .bool b ∧ w9 = wv ∧ Hid (b = (!v0 && (W.take i).all fun x => (ns11 o).contains x))) (fun _ iv _ => lw - (intOf iv).toNat)
                case atStart => exact ⟨0, !v0, by omega, rfl, rfl, rfl, Lib.hid (by simp)⟩
                case round =>
                  obtain ⟨i, b, hi, rfl, rfl, rfl, HBV⟩ := hrel
                  by_cases h5 : i < lw
                  · obtain ⟨x, hx⟩ : ∃ x, W[i]? = some x := ⟨_, List.getElem?_eq_getElem (by rw [HLW.out]; exact h5)⟩
                    have HAT := Lib.hid (all_take11 (f := fun x => (ns11 o).contains x) hx)
                    obtain ⟨ad, hA, y0⟩ := HRW.out.at_ hx
                    subst hA
                    clear hx
                    cases b with
                    | false =>
                      have HB2 : Hid (false = (!v0 && (W.take (i + 1)).all fun x => (ns11 o).contains x)) := Lib.hid (by
                        rw [HAT.out]
                        have h := HBV.out
                        cases v0 with
                        | true => rfl
                        | false =>
                          simp only [Bool.not_false, Bool.true_and] at h ⊢
                          rw [← h]
                          rfl)
                      go_wp2_with fail
                      go_roundw
                      case rel => exact ⟨i + 1, false, by omega, by go_num, rfl, (by first | trivial | rfl), HB2⟩
                      case measure => simp [intOf]; omega
                    | true =>
                      obtain ⟨v1, hv1⟩ : ∃ v, (ns11 o).contains x = v := ⟨_, rfl⟩
                      have HB2 : Hid (v1 = (!v0 && (W.take (i + 1)).all fun x => (ns11 o).contains x)) := Lib.hid (by
                        rw [HAT.out, ← Bool.and_assoc, ← HBV.out, hv1]
                        rfl)
                      have HH1 := Lib.hid (HHAS.out x)
                      rw [hv1] at HH1
                      clear hv1
                      go_wp2_with fail
                      refine HH1.out.mono ?_
                      rintro r w11 ⟨rfl, rfl⟩
                      go_wp2_with fail
                      go_roundw
                      case rel => exact ⟨i + 1, v1, by omega, by go_num, rfl, (by first | trivial | rfl), HB2⟩
                      case measure => simp [intOf]; omega
                  · obtain rfl : lw = i := by omega
                    have HRD : Hid (rd11 (e11 d) sn o kk = b) := Lib.hid (by
                      rw [rd11_ns, HWW.out, HV0.out]
                      have h := HBV.out
                      rw [List.take_of_length_le (by rw [HLW.out]; exact Nat.le_refl _)] at h
                      exact h.symm)
                    cases b with
                    | true =>
                      have HN2 : Hid ((kk : Int) = -1 ∧ (∀ i, i < kk + 1 → rd11 (e11 d) sn o i = false) ∨ ∃ j : Nat, j < sn ∧ (kk : Int) = j ∧ nx11 (e11 d) sn o = some j) := Lib.hid (.inr ⟨kk, h2, rfl, nx11_of HALL.out HRD.out h2⟩)
                      go_wp2_with fail
                      go_roundw
                      case rel => exact ⟨kk + 1, kk, by omega, by go_num, rfl, HN2, HBX9⟩
                      case measure => simp [intOf]; omega
                    | false =>
                      have HN2 : Hid ((-1 : Int) = -1 ∧ (∀ i, i < kk + 1 → rd11 (e11 d) sn o i = false) ∨ ∃ j : Nat, j < sn ∧ (-1 : Int) = j ∧ nx11 (e11 d) sn o = some j) := Lib.hid (.inl ⟨rfl, fun i hi => by
                        by_cases hik : i = kk
                        · rw [hik]; exact HRD.out
                        · exact HALL.out i (by omega)⟩)
                      go_wp2_with fail
                      go_roundw
                      case rel => exact ⟨kk + 1, -1, by omega, by go_num, rfl, HN2, HBX9⟩
                      case measure => simp [intOf]; omega
              · skip
                obtain ⟨j, hj, rfl, hnx⟩ : ∃ j : Nat, j < sn ∧ nn = j ∧ nx11 (e11 d) sn o = some j := HN.out.resolve_left (fun h => h3 (by omega))
                have HNX := Lib.hid hnx
                clear hnx h3
                have HO9 := Lib.hid (own_below HO.out HBX.out (Nat.le_refl _))
                have HB9 := Lib.hid (below_on HB.out HBX.out)
                have HOD2 : Hid (or11 (e11 d) sn = od11 (e11 d) sn (sn - (n7 + 1)) (o ++ [j])) := Lib.hid (by
                  rw [HOD.out, show sn - n7 = (sn - (n7 + 1)) + 1 by omega, od11, HNX.out])
                have HOL2 : Hid ((o ++ [j]).length = n7 + 1) := Lib.hid (by rw [List.length_append, HOL.out]; rfl)
                have hn9 : n7 + 1 ≤ 1000000 := by omega
                clear HO HB HBX SX
                go_wp2_with (at_builtin; refine wpList_append_niN _ rfl (.tmp 76) (.tmp 78) rfl wq.heap.size _ n7 (ns11 o) rfl (HO9.out.alloc _) _ 1 1 [(j : Int)] rfl (rn_one11 wx j) rfl hn9 (by have := HB9.out.size; simp; omega) ?_)
                intro A3 c3 w10 ho hb
                have HO8 : Hid (w10.ownsRow wq.heap.size 3 1 (.slice A3 (n7 + 1) c3) (n7 + 1) (ci9 (ns11 (o ++ [j])))) := Lib.hid (by
                  rw [ns11, List.map_append]
                  exact ho)
                have HB10 : Hid (Below wq.heap.size wq w10) := Lib.hid (HB9.out.trans ((new1.mono HB9.out.size).trans hb))
                clear ho hb HO9 HB9
                go_wp2_with fail
                go_roundw
                case rel => exact ⟨o ++ [j], A3, c3, n7 + 1, by omega, rfl, HOL2, HOD2, HO8, HB10⟩
                case measure => simp [slen11]; omega
            · skip
              obtain rfl : sn = kk := by omega
              by_cases h3 : nn < 0
              · obtain ⟨rfl, hall⟩ := HN.out.resolve_right (fun ⟨j, _, e, _⟩ => by omega)
                have HTE : Hid (T = ([], 110)) := Lib.hid (by
                  rw [HTO.out, HOD.out, show sn - n7 = (sn - (n7 + 1)) + 1 by omega, od11, nx11_no hall])
                have HE := Lib.hid (Ns11.err HTE.out SX.out.1)
                clear hall h3 HN
                go_wp2_with fail
                go_ret2
                exact HE.out
              · obtain ⟨j, hj, rfl, hnx⟩ : ∃ j : Nat, j < sn ∧ nn = j ∧ nx11 (e11 d) sn o = some j := HN.out.resolve_left (fun h => h3 (by omega))
                have HNX := Lib.hid hnx
                clear hnx h3
                have HO9 := Lib.hid (own_below HO.out HBX.out (Nat.le_refl _))
                have HB9 := Lib.hid (below_on HB.out HBX.out)
                have HOD2 : Hid (or11 (e11 d) sn = od11 (e11 d) sn (sn - (n7 + 1)) (o ++ [j])) := Lib.hid (by
                  rw [HOD.out, show sn - n7 = (sn - (n7 + 1)) + 1 by omega, od11, HNX.out])
                have HOL2 : Hid ((o ++ [j]).length = n7 + 1) := Lib.hid (by rw [List.length_append, HOL.out]; rfl)
                have hn9 : n7 + 1 ≤ 1000000 := by omega
                clear HO HB HBX SX
                go_wp2_with (at_builtin; refine wpList_append_niN _ rfl (.tmp 76) (.tmp 78) rfl wq.heap.size _ n7 (ns11 o) rfl (HO9.out.alloc _) _ 1 1 [(j : Int)] rfl (rn_one11 wx j) rfl hn9 (by have := HB9.out.size; simp; omega) ?_)
                intro A3 c3 w10 ho hb
                have HO8 : Hid (w10.ownsRow wq.heap.size 3 1 (.slice A3 (n7 + 1) c3) (n7 + 1) (ci9 (ns11 (o ++ [j])))) := Lib.hid (by
                  rw [ns11, List.map_append]
                  exact ho)
                have HB10 : Hid (Below wq.heap.size wq w10) := Lib.hid (HB9.out.trans ((new1.mono HB9.out.size).trans hb))
                clear ho hb HO9 HB9
                go_wp2_with fail
                go_roundw
                case rel => exact ⟨o ++ [j], A3, c3, n7 + 1, by omega, rfl, HOL2, HOD2, HO8, HB10⟩
                case measure => simp [slen11]; omega
        · obtain rfl : n7 = sn := by omega
          have HTE : Hid (T = (ns11 o, 0)) := Lib.hid (by rw [HTO.out, HOD.out, Nat.sub_self, od11])
          have HOF := Lib.hid (own_base HO.out HWS.out)
          have HNL : Hid ((ns11 o).length = n7) := Lib.hid (by rw [List.length_map]; exact HOL.out)
          have HBW := Lib.hid SZ.out.1
          go_wp2_with fail
          go_ret2
          exact ⟨A7, c7, by rw [HTE.out, HNL.out]; rfl, by rw [HTE.out]; dsimp only; rw [HNL.out]; exact HOF.out, HBW.out⟩
end Go.Proofs.Ytfbabbddiplgkaa
