/-
  Layer 5, package code: what its small functions, May and Same answer, for every argument.
-/
import Derived.Test.YthmfjdafmnmgiaaDoorCk
namespace Go.Proofs.YthmfjdafmnmgiaaDoor
open Go.RowKit
set_option maxRecDepth 100000
set_option linter.unusedSimpArgs false
set_option linter.unusedVariables false

theorem own_same {w w' : World} {base e size n : Nat} {v : Value} {xs : List Value} (h : w.ownsRow base e size v n xs) (hb : Below w.heap.size w w') : w'.ownsRow base e size v n xs := own_below h hb (Nat.le_refl _)
/-- Whether code may have n instructions. -/
def mcB (n : Int) : Bool := decide (1 ≤ n) && decide (n ≤ 200)
theorem mayc_v (n : Int) (v : Bool) (w : World) (h : mcB n = v) : Calls Tryd.prog 28 #[.int .i64 n] w fun e w' => e = .returned (.bool v) ∧ w = w' := by
  subst h
  go_enter Tryd.func28, Tryd.ntmps28
  by_cases h1 : 1 ≤ n
  · by_cases h2 : n ≤ 200
    · go_wp2_with fail
      go_ret
      exact ⟨by simp [mcB, h1, h2], rfl⟩
    · go_wp2_with fail
      go_ret
      exact ⟨by simp [mcB, h1, h2], rfl⟩
  · go_wp2_with fail
    go_ret
    exact ⟨by simp [mcB]; omega, rfl⟩
theorem hasop_v (n : Int) (v : Bool) (w : World) (h : wdB n = v) : Calls Tryd.prog 33 #[.int .u8 n] w fun e w' => e = .returned (.bool v) ∧ w = w' := by
  subst h
  have hB := Lib.hid (bounds_any n w)
  rw [wdB]
  generalize opLo n = p at *
  generalize opHi n = q at *
  go_enter Tryd.func33, Tryd.ntmps33
  go_wp2_with fail
  refine hB.out.mono ?_
  rintro e w1 ⟨rfl, rfl⟩
  go_wp2_with fail
  go_ret
  exact ⟨rfl, rfl⟩
theorem codM_len {L : List Ins} (h : mcB L.length = false) : codM L = false := by
  unfold mcB at h
  unfold codM
  cases h1 : decide (1 ≤ L.length) with
  | false => rfl
  | true =>
    have e1 : (1 : Int) ≤ L.length := by have := of_decide_eq_true h1; omega
    rw [decide_eq_true e1, Bool.true_and] at h
    have e2 : ¬ L.length ≤ 200 := by have := of_decide_eq_false h; omega
    rw [decide_eq_false e2]
    rfl
theorem codM_all {L : List Ins} (h : mcB L.length = true) : codM L = L.all inM := by
  unfold mcB at h
  rw [Bool.and_eq_true, decide_eq_true_eq, decide_eq_true_eq] at h
  unfold codM
  rw [decide_eq_true (show 1 ≤ L.length by omega), decide_eq_true (show L.length ≤ 200 by omega)]
  rfl
set_option maxHeartbeats 1000000 in
theorem cmay_any (A : Option Addr) (c m : Nat) (L : List Ins) (w : World) (hr : Ri w A c L) (hm : L.length = m) : Calls Tryd.prog 12 #[.slice A m c] w fun e w' => e = .returned (.bool (codM L)) ∧ Below w.heap.size w w' := by
  subst hm
  have hlen := hr.len
  have HR := Lib.hid hr
  clear hr
  cases hv0 : mcB L.length with
  | false =>
    have HN := Lib.hid (codM_len hv0)
    go_enter Tryd.func12, Tryd.ntmps12
    go_wp2_with fail
    refine (mayc_v _ _ _ hv0).mono ?_
    rintro e w1 ⟨rfl, rfl⟩
    go_wp2_with fail
    go_ret
    exact ⟨by rw [HN.out]; rfl, Below.refl _ _⟩
  | true =>
    have HC := Lib.hid (codM_all hv0)
    go_enter Tryd.func12, Tryd.ntmps12
    go_wp2_with fail
    refine (mayc_v _ _ _ hv0).mono ?_
    rintro e w1 ⟨rfl, rfl⟩
    clear hv0
    go_wp2_with fail
    go_loopw [11] (fun i wr => ∃ j : Nat, j ≤ L.length ∧ i = .int .i64 j ∧ Hid ((L.take j).all inM = true) ∧ Hid (Below w.heap.size w wr)) (fun i _ => L.length - (intOf i).toNat)
    case atStart => exact ⟨0, by omega, rfl, rfl, Lib.hid (Below.refl _ _)⟩
    case round =>
      obtain ⟨j, hj, rfl, HA, HB⟩ := hrel
      by_cases h1 : j < L.length
      · obtain ⟨ad, rfl, hc0, hc1, hc2⟩ := (HR.out.keep HB.out).at_ h1
        go_wp2_with fail
        refine (omay_v L[j].1 L[j].2.1 L[j].2.2 _ _ rfl).mono ?_
        rintro e w1 ⟨rfl, hb1⟩
        have HB1 := Lib.hid (below_on (below_on HB.out new1) hb1)
        clear hb1 hc0 hc1 hc2 HB
        cases hv : opM L[j].1 L[j].2.1 L[j].2.2 with
        | true =>
          have HN : Hid ((L.take (j + 1)).all inM = true) := by
            rw [Hid, List.take_add_one, List.getElem?_eq_getElem h1]
            simp only [Option.toList_some, List.all_append, HA.out, List.all_cons, List.all_nil, Bool.and_true, Bool.true_and]
            exact hv
          clear HA
          go_wp2_with fail
          go_roundw
          case rel => exact ⟨j + 1, by omega, by go_num, HN, HB1⟩
          case measure => simp [intOf]; omega
        | false =>
          have HN : Hid (codM L = false) := by
            have : L.all inM = false := List.all_eq_false.2 ⟨L[j], List.getElem_mem h1, by simp [inM, hv]⟩
            rw [Hid, HC.out, this]
          go_wp2_with fail
          go_ret
          exact ⟨by rw [HN.out]; rfl, HB1.out⟩
      · obtain rfl : j = L.length := by omega
        have HN : Hid (codM L = true) := by
          have h2 := HA.out
          rw [List.take_length] at h2
          rw [Hid, HC.out, h2]
        clear HA
        go_wp2_with fail
        go_ret
        exact ⟨by rw [HN.out]; rfl, HB.out⟩
set_option maxHeartbeats 1000000 in
theorem sequal_any (A B : Option Addr) (c d n m : Nat) (L M : List Ins) (w : World) (h1 : Ri w A c L) (h2 : Ri w B d M) (hn : L.length = n) (hm : M.length = m) : Calls Tryd.prog 31 #[.slice A n c, .slice B m d] w fun e w' => e = .returned (.bool (decide (L = M))) ∧ Below w.heap.size w w' := by
  have hl1 := h1.len
  have hl2 := h2.len
  have HR1 := Lib.hid h1
  have HR2 := Lib.hid h2
  clear h1 h2
  by_cases hnm : n = m
  · subst hn
    have hml : M.length = L.length := by omega
    subst hnm
    clear hm
    go_enter Tryd.func31, Tryd.ntmps31
    go_wp2_with fail
    go_loopw [13] (fun i wr => ∃ j : Nat, j ≤ L.length ∧ i = .int .i64 j ∧ Hid (L.take j = M.take j) ∧ Hid (Below w.heap.size w wr)) (fun i _ => L.length - (intOf i).toNat)
    case atStart => exact ⟨0, by omega, rfl, rfl, Lib.hid (Below.refl _ _)⟩
    case round =>
      obtain ⟨j, hj, rfl, HE, HB⟩ := hrel
      by_cases h : j < L.length
      · have h' : j < M.length := by omega
        obtain ⟨a1, rfl, x0, x1, x2⟩ := (HR1.out.keep HB.out).at_ h
        obtain ⟨a2, rfl, y0, y1, y2⟩ := (HR2.out.keep HB.out).at_ h'
        cases hv : decide (L[j] = M[j]) with
        | true =>
          have HN : Hid (L.take (j + 1) = M.take (j + 1)) := by
            have e : L[j] = M[j] := of_decide_eq_true hv
            rw [Hid, List.take_add_one, List.take_add_one, HE.out, List.getElem?_eq_getElem h, List.getElem?_eq_getElem h', e]
          have q := eq_ins 9998 L[j].1 L[j].2.1 L[j].2.2 M[j].1 M[j].2.1 M[j].2.2 true (by rw [ins_eq]; exact hv)
          clear HE hv
          generalize L[j] = x at *
          generalize M[j] = y at *
          go_wp2_with fail
          go_quiet (fail)
          go_wp2
          go_roundw
          case rel => exact ⟨j + 1, by omega, by go_num, HN, Lib.hid (below_draws HB.out _)⟩
          case measure => simp [intOf]; omega
        | false =>
          have HN : Hid (decide (L = M) = false) := by
            have e : ¬ L[j] = M[j] := of_decide_eq_false hv
            exact decide_eq_false fun e2 => e (by subst e2; rfl)
          have q := eq_ins 9998 L[j].1 L[j].2.1 L[j].2.2 M[j].1 M[j].2.1 M[j].2.2 false (by rw [ins_eq]; exact hv)
          clear HE hv
          generalize L[j] = x at *
          generalize M[j] = y at *
          go_wp2_with fail
          go_quiet (fail)
          go_wp2
          go_ret
          exact ⟨by rw [HN.out]; rfl, below_draws HB.out _⟩
      · obtain rfl : j = L.length := by omega
        have HN : Hid (decide (L = M) = true) := by
          have := HE.out
          rw [List.take_length, List.take_of_length_le (by omega)] at this
          exact decide_eq_true this
        go_wp2
        go_ret
        exact ⟨by rw [HN.out]; rfl, HB.out⟩
  · have HN : Hid (decide (L = M) = false) := decide_eq_false fun e => hnm (by rw [← hn, ← hm, e])
    go_enter Tryd.func31, Tryd.ntmps31
    go_wp2_with fail
    go_ret
    exact ⟨by rw [HN.out]; rfl, Below.refl _ _⟩
theorem csame_any (A B : Option Addr) (c d n m : Nat) (L M : List Ins) (w : World) (h1 : Ri w A c L) (h2 : Ri w B d M) (hn : L.length = n) (hm : M.length = m) : Calls Tryd.prog 14 #[.slice A n c, .slice B m d] w fun e w' => e = .returned (.bool (decide (L = M))) ∧ Below w.heap.size w w' := by
  obtain ⟨v, hv⟩ : ∃ v, decide (L = M) = v := ⟨_, rfl⟩
  have key := fun w hw1 hw2 => Lib.hid (sequal_any A B c d n m L M w hw1 hw2 hn hm)
  rw [hv] at *
  go_enter Tryd.func14, Tryd.ntmps14
  go_wp2_with fail
  refine (key _ h1 h2).out.mono ?_
  rintro e w1 ⟨rfl, hb⟩
  have HB := Lib.hid hb
  clear hb h1 h2 key
  go_wp2_with fail
  go_ret
  exact ⟨rfl, HB.out⟩
theorem kmay (F : Fct) : KMay F := fun A c m L w _ hr hm => cmay_any A c m L w hr hm
theorem ksame (F : Fct) : KSame F := fun A B c d n m L M w _ h1 h2 hn hm => csame_any A B c d n m L M w h1 h2 hn hm
end Go.Proofs.YthmfjdafmnmgiaaDoor
