/-
  The law FlowWays.
-/
import Derived.Test.YtfchdggefedgoaaFv
import Derived.Test.YtfchdggefedgoaaFy
namespace Go.Proofs.Ytfchdggefedgoaa
open Go.RowKit
set_option maxRecDepth 100000
set_option linter.unusedSimpArgs false
set_option linter.unusedVariables false

set_option maxHeartbeats 8000000 in
theorem ways9_walk (A : Option Addr) (c m : Nat) (L : List Ins) (a : Int) (w : World) (hr : Ri w A c L) (hm : L.length = m) :
    Calls Try.prog 4 #[.slice A m c, .int .i64 a] w fun r w' => r = .returned (.bool true) ∧ Below w.heap.size w w' := by
  have HLm := Lib.hid hm
  have HR := Lib.hid hr
  have hml : m ≤ 9223372036854775807 := by have := hr.len; omega
  have HW1 := Lib.hid (r9ways_v A c m L a w hr hm)
  clear hr hm
  by_cases h3 : 300 < m
  · go_enter Try.func4, Try.ntmps4
    go_wp2_with fail
    go_ret
    exact ⟨rfl, Below.refl _ _⟩
  have HW2 := fun w' h => Lib.hid (fways_v A c m L a w' h HLm.out (by omega))
  obtain ⟨FW, hFW⟩ : ∃ x, flW9 L a = x := ⟨_, rfl⟩
  rw [hFW] at HW1 HW2
  clear hFW
  obtain ⟨W, E⟩ := FW
  dsimp only at HW1 HW2
  obtain ⟨k, hk⟩ : ∃ k, W.length = k := ⟨_, rfl⟩
  rw [hk] at HW1 HW2
  have HKL := Lib.hid hk
  clear hk
  go_enter Try.func4, Try.ntmps4
  go_wp2_with fail
  refine HW1.out.mono ?_
  rintro r w1 ⟨A1, c1, rfl, ho, hb⟩
  have HN1 : Hid (Rn w1 A1 c1 W) := Lib.hid (Rn.of_own ho).1
  have HB1 := Lib.hid hb
  have hkl : k ≤ 9223372036854775807 := by
    have h := HN1.out
    have := h.1
    have := h.2.1
    unfold maxLen at this
    have := HKL.out
    omega
  clear ho hb HW1
  go_wp2_with fail
  go_loopw [7] (fun tv wq => ∃ t : Nat, t ≤ 2 ∧ tv = .int .i64 t ∧ Hid (Rn wq A1 c1 W) ∧ Hid (Below w.heap.size w wq)) (fun tv _ => 2 - (intOf tv).toNat)
  case atStart => exact ⟨0, by omega, rfl, HN1, HB1⟩
  case round =>
    clear HN1 HB1
    obtain ⟨t, ht, rfl, HN, HB⟩ := hrel
    rename World => wo
    by_cases h1 : t < 2
    · have HW3 := HW2 wo (HR.out.keep HB.out)
      go_wp2_with fail
      refine HW3.out.mono ?_
      rintro r w2 ⟨A2, c2, rfl, ho, hb⟩
      have HO2 := Lib.hid ho
      have HB2 := Lib.hid hb
      have HSI : Hid (Calls Try.prog 14 #[.slice A2 k c2, .slice A1 k c1] w2 fun r w' => r = .returned (.bool true) ∧ Below w2.heap.size w2 w') := Lib.hid (by
        have h := sameints9_v A2 A1 c2 k c1 k W W w2 (Rn.of_own ho).1 HKL.out (HN.out.keep hb) HKL.out
        simpa using h)
      clear ho hb HW3
      go_wp2_with fail
      refine HSI.out.mono ?_
      rintro r w3 ⟨rfl, hb⟩
      have HO3 : Hid (w3.ownsRow wo.heap.size 3 1 (.slice A2 k c2) k (ci9 W)) := Lib.hid (own_below HO2.out hb (Nat.le_refl _))
      have HB3 : Hid (Below wo.heap.size wo w3) := Lib.hid (below_on HB2.out hb)
      clear hb HSI HO2 HB2
      go_wp2_with fail
      go_loopw [10] (fun iv wq => ∃ (i : Nat) (xs : List Value), i ≤ k ∧ iv = .int .i64 i ∧ Hid (wq.ownsRow wo.heap.size 3 1 (.slice A2 k c2) k xs) ∧ Hid (Below wo.heap.size wo wq)) (fun iv _ => k - (intOf iv).toNat)
      case atStart => exact ⟨0, _, by omega, rfl, HO3, HB3⟩
      case round =>
        clear HO3 HB3
        obtain ⟨i, xs, hi, rfl, HO, HB2⟩ := hrel
        by_cases h2 : i < k
        · obtain ⟨g, hg, hBg, hgs⟩ : ∃ g, A2 = some ⟨g, 0, none⟩ ∧ wo.heap.size ≤ g ∧ g < wr.heap.size := by
            rcases HO.out.2 with ⟨hv, h0⟩ | ⟨g, cap, cur, hv, hg, hb, _⟩
            · omega
            · injection hv with e1 e2 e3
              exact ⟨g, e1, hg, (Array.getElem?_eq_some_iff.1 hb).1⟩
          subst hg
          have hxl : xs.length = k := by simpa using HO.out.1
          have y0 := HO.out.cellAt i (by omega)
          rw [List.getElem?_eq_getElem (by omega)] at y0
          have yf := HO.out.frozenAt i
          have HO4 := Lib.hid (HO.out.stored i (.int .i64 (-5))).1
          have HB4 : Hid (Below wo.heap.size wo (wr.setCell ⟨g, i, none⟩ (.int .i64 (-5)))) := Lib.hid (HB2.out.setCell (p := ⟨g, i, none⟩) hBg _)
          clear HO HB2
          go_wp2_with fail
          go_roundw
          case rel => exact ⟨i + 1, _, by omega, by go_num, HO4, HB4⟩
          case measure => simp [intOf]; omega
        · obtain rfl : i = k := by omega
          have HN5 : Hid (Rn wr A1 c1 W) := Lib.hid (HN.out.keep HB2.out)
          have HB5 : Hid (Below w.heap.size w wr) := Lib.hid (below_on HB.out HB2.out)
          go_wp2_with fail
          go_roundw
          case rel => exact ⟨t + 1, by omega, by go_num, HN5, HB5⟩
          case measure => simp [intOf]; omega
    · go_wp2_with fail
      go_ret
      exact ⟨rfl, HB.out⟩
end Go.Proofs.Ytfchdggefedgoaa
