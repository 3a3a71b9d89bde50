/-
  The program's small functions of layer 9: inside, valid, mayJump, jumpsFit, ends, target.
-/
import Derived.Test.YtfchdggefedgoaaFk
import Derived.Test.YtfchdggefedgoaaLf
namespace Go.Proofs.Ytfchdggefedgoaa
open Go.RowKit
set_option maxRecDepth 100000
set_option linter.unusedSimpArgs false
set_option linter.unusedVariables false

theorem Ri.cl9 {w : World} {A : Option Addr} {c : Nat} {L : List Ins} (h : Ri w A c L) {i : Nat} {o a z : Int} (hx : L[i]? = some (o, a, z)) : ∃ ad : Addr, A = some ad ∧ w.cell? (ad.add (i * 3)) = some (.int .u8 o) ∧ w.cell? ⟨(ad.add (i * 3)).block, (ad.add (i * 3)).off + 1, none⟩ = some (.int .i64 a) ∧ w.cell? ⟨(ad.add (i * 3)).block, (ad.add (i * 3)).off + 2, none⟩ = some (.int .i64 z) := by
  obtain ⟨hi, he⟩ := List.getElem?_eq_some_iff.1 hx
  obtain ⟨ad, hA, h1, h2, h3⟩ := h.at_ hi
  rw [he] at h1 h2 h3
  exact ⟨ad, hA, h1, h2, h3⟩
theorem Rj.cl9 {w : World} {A : Option Addr} {c : Nat} {L : List Lp} (h : Rj w A c L) {i f t : Nat} {z : Int} (hx : L[i]? = some (f, t, z)) : ∃ ad : Addr, A = some ad ∧ w.cell? (ad.add (i * 3)) = some (.int .i64 f) ∧ w.cell? ⟨(ad.add (i * 3)).block, (ad.add (i * 3)).off + 1, none⟩ = some (.int .i64 t) ∧ w.cell? ⟨(ad.add (i * 3)).block, (ad.add (i * 3)).off + 2, none⟩ = some (.int .i64 z) := by
  obtain ⟨hi, he⟩ := List.getElem?_eq_some_iff.1 hx
  obtain ⟨ad, hA, h1, h2, h3⟩ := h.at_ hi
  rw [he] at h1 h2 h3
  exact ⟨ad, hA, h1, h2, h3⟩
theorem inside_v (f t p : Nat) (k : Int) (w : World) : Calls Try.prog 60 #[.agg #[.int .i64 f, .int .i64 t, .int .i64 k], .int .i64 p] w fun r w' => r = .returned (.bool (decide (f < p) && decide (p ≤ t))) ∧ Below w.heap.size w w' := by
  by_cases h1 : f < p
  · by_cases h2 : p ≤ t
    all_goals
      go_enter Try.func60, Try.ntmps60
      go_wp2_with fail
      go_ret
      exact ⟨by simp [h1, h2], new1⟩
  · go_enter Try.func60, Try.ntmps60
    go_wp2_with fail
    go_ret
    exact ⟨by simp [h1], new1⟩
/-- Where an instruction leads beside the next place. -/
def tg9 (x : Ins) : Int := if x.1 = 29 then x.2.1 + 1 else x.2.1
theorem target_v (o a z : Int) (w : World) (ha : 0 ≤ a ∧ a ≤ 1000000) : Calls Try.prog 28 #[.agg #[.int .u8 o, .int .i64 a, .int .i64 z]] w fun r w' => r = .returned (.int .i64 (tg9 (o, a, z))) ∧ Below w.heap.size w w' := by
  by_cases h1 : o = 29
  · subst h1
    have hwr : IntKind.i64.wrap (a + 1) = a + 1 := by
      simp [IntKind.wrap, IntKind.signed, IntKind.bits, go_sem]
      omega
    go_enter Try.func28, Try.ntmps28
    go_wp2_with fail
    go_ret
    exact ⟨rfl, new1⟩
  · have hne : (o == 29) = false := by simpa using h1
    go_enter Try.func28, Try.ntmps28
    go_wp2_with fail
    go_ret
    exact ⟨by rw [tg9, if_neg h1]; rfl, new1⟩
set_option maxHeartbeats 4000000 in
theorem valid9_v (A : Option Addr) (c m : Nat) (L : List Ins) (w : World) (hr : Ri w A c L) (hm : L.length = m) : Calls Try.prog 36 #[.slice A m c] w fun r w' => r = .returned (.bool (codM L)) ∧ Below w.heap.size w w' := by
  have HLm := Lib.hid hm
  have HR := Lib.hid hr
  have hml : m ≤ 9223372036854775807 := by have := hr.len; omega
  clear hr hm
  by_cases hm1 : m < 1
  · have HN : Hid (codM L = false) := Lib.hid (by rw [codM, HLm.out, decide_eq_false (by omega)]; rfl)
    go_enter Try.func36, Try.ntmps36
    go_wp2_with fail
    go_ret
    exact ⟨by rw [HN.out]; rfl, Below.refl _ _⟩
  by_cases hm2 : 200 < m
  · have HN : Hid (codM L = false) := Lib.hid (by rw [codM, HLm.out, decide_eq_false (p := m ≤ 200) (by omega), Bool.and_false]; rfl)
    go_enter Try.func36, Try.ntmps36
    go_wp2_with fail
    go_ret
    exact ⟨by rw [HN.out]; rfl, Below.refl _ _⟩
  go_enter Try.func36, Try.ntmps36
  go_wp2_with fail
  go_loopw [15] (fun iv wr => ∃ i : Nat, i ≤ m ∧ iv = .int .i64 i ∧ Hid ((L.take i).all inM = true) ∧ Hid (Below w.heap.size w wr)) (fun iv _ => m - (intOf iv).toNat)
  case atStart => exact ⟨0, by omega, rfl, Lib.hid rfl, Lib.hid (Below.refl _ _)⟩
  case round =>
    obtain ⟨i, hi, rfl, HI, HB⟩ := hrel
    by_cases h1 : i < m
    · obtain ⟨⟨o, a, z⟩, hx⟩ : ∃ x, L[i]? = some x := ⟨_, List.getElem?_eq_getElem (by rw [HLm.out]; exact h1)⟩
      obtain ⟨ad, hA, k1, k2, k3⟩ := (HR.out.keep HB.out).cl9 hx
      subst hA
      have HX := Lib.hid hx
      clear hx
      cases hv : inM (o, a, z) with
      | false =>
        have HN : Hid (codM L = false) := Lib.hid (by
          have : L.all inM = false := List.all_eq_false.2 ⟨_, List.mem_of_getElem? HX.out, by rw [hv]; simp⟩
          rw [codM, this, Bool.and_false])
        have HM := fun w => Lib.hid (omay_v o a z _ w hv)
        clear hv
        go_wp2_with fail
        refine (HM _).out.mono ?_
        rintro r w2 ⟨rfl, hb⟩
        have HB2 := Lib.hid (below_on (below_on HB.out new1) hb)
        clear hb k1 k2 k3
        go_wp2_with fail
        go_ret
        exact ⟨by rw [HN.out]; rfl, HB2.out⟩
      | true =>
        have HI2 : Hid ((L.take (i + 1)).all inM = true) := Lib.hid (by rw [List.take_add_one, HX.out, List.all_append, HI.out]; simp [hv])
        have HM := fun w => Lib.hid (omay_v o a z _ w hv)
        clear hv
        go_wp2_with fail
        refine (HM _).out.mono ?_
        rintro r w2 ⟨rfl, hb⟩
        have HB2 := Lib.hid (below_on (below_on HB.out new1) hb)
        clear hb k1 k2 k3
        go_wp2_with fail
        go_roundw
        case rel => exact ⟨i + 1, by omega, by go_num, HI2, HB2⟩
        case measure => simp [intOf]; omega
    · obtain rfl : m = i := by omega
      have HN : Hid (codM L = true) := Lib.hid (by
        have h := HI.out
        rw [List.take_of_length_le (by rw [HLm.out]; exact Nat.le_refl _)] at h
        rw [codM, h, HLm.out, decide_eq_true (by omega), decide_eq_true (by omega)]; rfl)
      go_wp2_with fail
      go_ret
      exact ⟨by rw [HN.out]; rfl, HB.out⟩
/-- May the instruction at one place jump to another one? -/
def mj9 (xs : List Lp) (p b : Nat) : Bool := xs.all (fun x => !(wi9 x b && !wi9 x p)) && decide (p < b)
set_option maxHeartbeats 4000000 in
theorem mayjump_v (A : Option Addr) (c n : Nat) (xs : List Lp) (p b : Nat) (w : World) (hr : Rj w A c xs) (hn : xs.length = n) (hp : p ≤ 1000000) (hb : b ≤ 1000000) : Calls Try.prog 45 #[.slice A n c, .int .i64 p, .int .i64 b] w fun r w' => r = .returned (.bool (mj9 xs p b)) ∧ Below w.heap.size w w' := by
  have HN := Lib.hid hn
  have HR := Lib.hid hr
  have hnl : n ≤ 9223372036854775807 := by have := hr.len; omega
  clear hr hn
  go_enter Try.func45, Try.ntmps45
  go_wp2_with fail
  go_loopw [11] (fun iv wr => ∃ i : Nat, i ≤ n ∧ iv = .int .i64 i ∧ Hid ((xs.take i).all (fun x => !(wi9 x b && !wi9 x p)) = true) ∧ Hid (Below w.heap.size w wr)) (fun iv _ => n - (intOf iv).toNat)
  case atStart => exact ⟨0, by omega, rfl, Lib.hid rfl, Lib.hid (Below.refl _ _)⟩
  case round =>
    obtain ⟨i, hi, rfl, HI, HB⟩ := hrel
    by_cases h1 : i < n
    · obtain ⟨⟨f, t, z⟩, hx⟩ : ∃ x, xs[i]? = some x := ⟨_, List.getElem?_eq_getElem (by rw [HN.out]; exact h1)⟩
      obtain ⟨ad, hA, k1, k2, k3⟩ := (HR.out.keep HB.out).cl9 hx
      subst hA
      have HX := Lib.hid hx
      have HC1 := fun w => Lib.hid (inside_v f t b z w)
      have HC2 := fun w => Lib.hid (inside_v f t p z w)
      have HNP0 : Hid ((!(wi9 (f, t, z) b && !wi9 (f, t, z) p)) = !((decide (f < b) && decide (b ≤ t)) && !(decide (f < p) && decide (p ≤ t)))) := Lib.hid rfl
      generalize (decide (f < b) && decide (b ≤ t)) = b1 at HC1 HNP0
      generalize (decide (f < p) && decide (p ≤ t)) = b2 at HC2 HNP0
      clear hx
      go_wp2_with fail
      refine (HC1 _).out.mono ?_
      rintro r w2 ⟨rfl, hb1⟩
      have HB2 := Lib.hid (below_on (below_on HB.out new1) hb1)
      have y0 : w2.cell? ⟨wr.heap.size, 0, none⟩ = some (.int .i64 f) := (hb1.cell (by simp)).trans (by simp [go_sem])
      have y1 : w2.cell? ⟨wr.heap.size, 1, none⟩ = some (.int .i64 t) := (hb1.cell (by simp)).trans (by simp [go_sem])
      have y2 : w2.cell? ⟨wr.heap.size, 2, none⟩ = some (.int .i64 z) := (hb1.cell (by simp)).trans (by simp [go_sem])
      clear hb1 k1 k2 k3
      cases b1 with
      | false =>
        have HI2 : Hid ((xs.take (i + 1)).all (fun x => !(wi9 x b && !wi9 x p)) = true) := Lib.hid (by
          rw [List.take_add_one, HX.out, List.all_append, HI.out]
          simp only [Option.toList_some, List.all_cons, List.all_nil, Bool.and_true, Bool.true_and]
          rw [HNP0.out]; rfl)
        go_wp2_with fail
        go_roundw
        case rel => exact ⟨i + 1, by omega, by go_num, HI2, HB2⟩
        case measure => simp [intOf]; omega
      | true =>
        go_wp2_with fail
        refine (HC2 _).out.mono ?_
        rintro r w3 ⟨rfl, hb2⟩
        have HB3 := Lib.hid (below_on HB2.out hb2)
        clear hb2 y0 y1 y2
        cases b2 with
        | true =>
          have HI2 : Hid ((xs.take (i + 1)).all (fun x => !(wi9 x b && !wi9 x p)) = true) := Lib.hid (by
            rw [List.take_add_one, HX.out, List.all_append, HI.out]
            simp only [Option.toList_some, List.all_cons, List.all_nil, Bool.and_true, Bool.true_and]
            rw [HNP0.out]; rfl)
          go_wp2_with fail
          go_roundw
          case rel => exact ⟨i + 1, by omega, by go_num, HI2, HB3⟩
          case measure => simp [intOf]; omega
        | false =>
          have HE : Hid (mj9 xs p b = false) := Lib.hid (by
            have : xs.all (fun x => !(wi9 x b && !wi9 x p)) = false := List.all_eq_false.2 ⟨_, List.mem_of_getElem? HX.out, by rw [HNP0.out]; simp⟩
            rw [mj9, this, Bool.false_and])
          go_wp2_with fail
          go_ret
          exact ⟨by rw [HE.out]; rfl, HB3.out⟩
    · obtain rfl : n = i := by omega
      have HE : Hid (mj9 xs p b = decide (p < b)) := Lib.hid (by
        have h := HI.out
        rw [List.take_of_length_le (by rw [HN.out]; exact Nat.le_refl _)] at h
        rw [mj9, h, Bool.true_and])
      by_cases hpb : p < b
      all_goals
        go_wp2_with fail
        go_ret
        exact ⟨by rw [HE.out]; simp [hpb], HB.out⟩
set_option maxHeartbeats 4000000 in
theorem jumpsfit_v (A A2 : Option Addr) (c m c2 n : Nat) (L : List Ins) (xs : List Lp) (w : World) (hr : Ri w A c L) (hm : L.length = m) (hr2 : Rj w A2 c2 xs) (hn : xs.length = n) (hm2 : m ≤ 200) (hnn : ∀ x ∈ L, 0 ≤ x.2.1) : Calls Try.prog 37 #[.slice A m c, .slice A2 n c2] w fun r w' => r = .returned (.bool ((List.range m).all (jp9 L xs))) ∧ Below w.heap.size w w' := by
  have HLm := Lib.hid hm
  have HR := Lib.hid hr
  have HR2 := Lib.hid hr2
  have HN := Lib.hid hn
  have HNN := Lib.hid hnn
  clear hr hm hr2 hn hnn
  go_enter Try.func37, Try.ntmps37
  go_wp2_with fail
  go_loopw [9] (fun iv wr => ∃ i : Nat, i ≤ m ∧ iv = .int .i64 i ∧ Hid ((List.range i).all (jp9 L xs) = true) ∧ Hid (Below w.heap.size w wr)) (fun iv _ => m - (intOf iv).toNat)
  case atStart => exact ⟨0, by omega, rfl, Lib.hid rfl, Lib.hid (Below.refl _ _)⟩
  case round =>
    obtain ⟨i, hi, rfl, HI, HB⟩ := hrel
    by_cases h1 : i < m
    · obtain ⟨⟨o, a, z⟩, hx⟩ : ∃ x, L[i]? = some x := ⟨_, List.getElem?_eq_getElem (by rw [HLm.out]; exact h1)⟩
      obtain ⟨ad, hA, k1, k2, k3⟩ := (HR.out.keep HB.out).cl9 hx
      subst hA
      have HXO : Hid (iO9 L i = o ∧ iA9 L i = a) := Lib.hid ⟨by simp [iO9, hx], by simp [iA9, hx]⟩
      obtain ⟨b, rfl⟩ : ∃ b : Nat, a = b := ⟨a.toNat, by have := HNN.out _ (List.mem_of_getElem? hx); simp at this; omega⟩
      clear hx
      have HNO : Hid (jp9 L xs i = false → (List.range m).all (jp9 L xs) = false) := Lib.hid fun h => by
        cases hb : (List.range m).all (jp9 L xs) with
        | false => rfl
        | true =>
          rw [List.all_eq_true] at hb
          rw [hb i (List.mem_range.2 h1)] at h
          cases h
      have HYES : Hid (jp9 L xs i = true → (List.range (i + 1)).all (jp9 L xs) = true) := Lib.hid fun h => by
        rw [List.range_succ, List.all_append, HI.out]
        simp [h]
      by_cases hj : o = 26 ∨ o = 27
      · have HJ : Hid (jp9 L xs i = (decide ((i : Int) < b) && (decide ((b : Int) < m) && xs.all fun x => !(wi9 x b && !wi9 x i)))) := Lib.hid (by
          rw [jp9, HXO.out.1, HXO.out.2, HLm.out, if_pos hj, Int.toNat_natCast])
        by_cases hbm : m ≤ b
        · have HE := Lib.hid (HNO.out (by rw [HJ.out, decide_eq_false (p := (b : Int) < m) (by omega), Bool.false_and, Bool.and_false]))
          rcases hj with rfl | rfl
          all_goals
            go_wp2_with fail
            go_ret
            exact ⟨by rw [HE.out]; rfl, below_on HB.out new1⟩
        · have HB1 : Hid (Below w.heap.size w (wr.alloc (.cells #[.int .u8 o, .int .i64 b, .int .i64 z] 52))) := Lib.hid (below_on HB.out new1)
          have HMJ := Lib.hid (mayjump_v A2 c2 n xs i b (wr.alloc (.cells #[.int .u8 o, .int .i64 b, .int .i64 z] 52)) (HR2.out.keep HB1.out) HN.out (by omega) (by omega))
          have HJ2 : Hid (jp9 L xs i = mj9 xs i b) := Lib.hid (by
            rw [HJ.out, mj9, decide_eq_true (p := (b : Int) < m) (by omega), Bool.true_and, Bool.and_comm]
            congr 1
            simp)
          rw [Hid, ← HJ2.out] at HMJ
          have HMJ := Lib.hid HMJ
          cases hv : jp9 L xs i with
          | true =>
            have HI2 := Lib.hid (HYES.out hv)
            rw [hv] at HMJ
            clear hv
            rcases hj with rfl | rfl
            all_goals
              go_wp2_with fail
              refine HMJ.out.mono ?_
              rintro r w2 ⟨rfl, hb⟩
              have HB2 := Lib.hid (below_on HB1.out hb)
              clear hb k1 k2 k3
              go_wp2_with fail
              go_roundw
              case rel => exact ⟨i + 1, by omega, by go_num, HI2, HB2⟩
              case measure => simp [intOf]; omega
          | false =>
            have HE := Lib.hid (HNO.out hv)
            rw [hv] at HMJ
            clear hv
            rcases hj with rfl | rfl
            all_goals
              go_wp2_with fail
              refine HMJ.out.mono ?_
              rintro r w2 ⟨rfl, hb⟩
              have HB2 := Lib.hid (below_on HB1.out hb)
              clear hb k1 k2 k3
              go_wp2_with fail
              go_ret
              exact ⟨by rw [HE.out]; rfl, HB2.out⟩
      · have e26 : (o != 26) = true := by simp; omega
        have e27 : (o != 27) = true := by simp; omega
        have HI2 := Lib.hid (HYES.out (by rw [jp9, HXO.out.1, if_neg hj]))
        have HB1 : Hid (Below w.heap.size w (wr.alloc (.cells #[.int .u8 o, .int .i64 b, .int .i64 z] 52))) := Lib.hid (below_on HB.out new1)
        go_wp2_with fail
        go_roundw
        case rel => exact ⟨i + 1, by omega, by go_num, HI2, HB1⟩
        case measure => simp [intOf]; omega
    · obtain rfl : m = i := by omega
      go_wp2_with fail
      go_ret
      exact ⟨by rw [HI.out]; rfl, HB.out⟩
theorem ends9f_v (A : Option Addr) (c m : Nat) (L : List Ins) (w : World) (hr : Ri w A c L) (hm : L.length = m) (h1 : 1 ≤ m) (h2 : m ≤ 200) : Calls Try.prog 38 #[.slice A m c] w fun r w' => r = .returned (.bool (decide (la9 L = 31 ∨ la9 L = 32))) ∧ Below w.heap.size w w' := by
  obtain ⟨q, hq⟩ : ∃ q : Nat, (m : Int) - 1 = q := ⟨m - 1, by omega⟩
  have hqm : q < m := by omega
  obtain ⟨⟨o, a, z⟩, hx⟩ : ∃ x, L[q]? = some x := ⟨_, List.getElem?_eq_getElem (by rw [hm]; exact hqm)⟩
  obtain ⟨ad, hA, k1, -, -⟩ := hr.cl9 hx
  have HLA : Hid (la9 L = o) := Lib.hid (by rw [la9, hm, show m - 1 = q by omega]; simp [iO9, hx])
  subst hA
  clear hx hr hm
  by_cases h31 : o = 31
  · subst h31
    go_enter Try.func38, Try.ntmps38
    go_wp2_with fail
    go_ret
    exact ⟨by rw [HLA.out]; simp, Below.refl _ _⟩
  · have e31 : (o == 31) = false := by simpa using h31
    by_cases h32 : o = 32
    · subst h32
      go_enter Try.func38, Try.ntmps38
      go_wp2_with fail
      go_ret
      exact ⟨by rw [HLA.out]; simp, Below.refl _ _⟩
    · have e32 : (o == 32) = false := by simpa using h32
      go_enter Try.func38, Try.ntmps38
      go_wp2_with fail
      go_ret
      exact ⟨by rw [HLA.out, decide_eq_false (by omega)]; rfl, Below.refl _ _⟩
end Go.Proofs.Ytfchdggefedgoaa
