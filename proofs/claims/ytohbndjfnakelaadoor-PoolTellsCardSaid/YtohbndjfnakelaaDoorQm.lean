/-
  Layer 6, package pool: what May and Find answer, for every argument.
-/
import Derived.Test.YtohbndjfnakelaaDoorPk
import Derived.Test.YtohbndjfnakelaaDoorLd
namespace Go.Proofs.YtohbndjfnakelaaDoor
open Go.RowKit
set_option maxRecDepth 100000
set_option linter.unusedSimpArgs false
set_option linter.unusedVariables false

theorem pmay_any (A : Option Addr) (c m : Nat) (L : List Vlu) (w : World) (hr : Rv w A c L) (hm : L.length = m) : Calls Tryd.prog 10 #[.slice A m c] w fun e w' => e = .returned (.bool (poM L)) ∧ Below w.heap.size w w' := by
  subst hm
  have hlen := hr.len
  have HR := Lib.hid hr
  clear hr
  by_cases h0 : L.length ≤ 32
  · have HC : Hid (poM L = L.all vM) := by rw [Hid, poM, decide_eq_true h0, Bool.true_and]
    go_enter Tryd.func10, Tryd.ntmps10
    go_wp2_with fail
    go_loopw [10] (fun i wr => ∃ j : Nat, j ≤ L.length ∧ i = .int .i64 j ∧ Hid ((L.take j).all vM = true) ∧ Hid (Below w.heap.size w wr)) (fun i _ => L.length - (intOf i).toNat)
    case atStart => exact ⟨0, by omega, rfl, rfl, Lib.hid (Below.refl _ _)⟩
    case round =>
      obtain ⟨j, hj, rfl, HA, HB⟩ := hrel
      by_cases h1 : j < L.length
      · obtain ⟨ad, rfl, hc0, hc1, hc2⟩ := (HR.out.keep HB.out).at_ h1
        go_wp2_with fail
        refine (vmay_v L[j].1 L[j].2.1 L[j].2.2 _ _ rfl).mono ?_
        rintro e w1 ⟨rfl, hb1⟩
        have HB1 := Lib.hid (below_on (below_on HB.out new1) hb1)
        clear hb1 hc0 hc1 hc2 HB
        cases hv : mayB L[j].1 L[j].2.1 L[j].2.2 with
        | true =>
          have HN : Hid ((L.take (j + 1)).all vM = true) := by
            rw [Hid, List.take_add_one, List.getElem?_eq_getElem h1]
            simp only [Option.toList_some, List.all_append, HA.out, List.all_cons, List.all_nil, Bool.and_true, Bool.true_and]
            exact hv
          clear HA
          go_wp2_with fail
          go_roundw
          case rel => exact ⟨j + 1, by omega, by go_num, HN, HB1⟩
          case measure => simp [intOf]; omega
        | false =>
          have HN : Hid (poM L = false) := by
            have : L.all vM = false := List.all_eq_false.2 ⟨L[j], List.getElem_mem h1, by simp [vM, hv]⟩
            rw [Hid, HC.out, this]
          go_wp2_with fail
          go_ret
          exact ⟨by rw [HN.out]; rfl, HB1.out⟩
      · obtain rfl : j = L.length := by omega
        have HN : Hid (poM L = true) := by
          have h2 := HA.out
          rw [List.take_length] at h2
          rw [Hid, HC.out, h2]
        clear HA
        go_wp2_with fail
        go_ret
        exact ⟨by rw [HN.out]; rfl, HB.out⟩
  · have HN : Hid (poM L = false) := by rw [Hid, poM, decide_eq_false h0]; rfl
    go_enter Tryd.func10, Tryd.ntmps10
    go_wp2_with fail
    go_ret
    exact ⟨by rw [HN.out]; rfl, Below.refl _ _⟩
theorem sindex_any (A : Option Addr) (c m : Nat) (L : List Vlu) (k a b : Int) (w : World) (hr : Rv w A c L) (hm : L.length = m) : Calls Tryd.prog 23 #[.slice A m c, .agg #[.int .u8 k, .int .i64 a, .int .i64 b]] w fun e w' => e = .returned (.int .i64 (fdI L (k, a, b))) ∧ Below w.heap.size w w' := by
  subst hm
  have hlen := hr.len
  have HR := Lib.hid hr
  clear hr
  obtain ⟨x, hx⟩ : ∃ x : Vlu, x = (k, a, b) := ⟨_, rfl⟩
  have HX := Lib.hid hx
  rw [← hx]
  have F1 := fun j hj h e => Lib.hid (fdI_hit (L := L) (x := x) (j := j) hj h e)
  have F2 := fun h => Lib.hid (fdI_miss (L := L) (x := x) h)
  generalize fdI L x = r at *
  clear hx
  go_enter Tryd.func23, Tryd.ntmps23
  go_wp2_with fail
  have S0 := Lib.hid (((Sx.start w).add (fW A c L) HR.out).mkV k a b)
  clear HR
  generalize w.alloc (.cells #[.int .u8 k, .int .i64 a, .int .i64 b] 24) = w1 at S0 ⊢
  generalize hbk : w.heap.size = B at S0 ⊢
  go_loopw [8] (fun i wr => ∃ j : Nat, j ≤ L.length ∧ j ≤ fdK L x ∧ i = .int .i64 j ∧ Hid (Sx w wr [fV B k a b, fW A c L])) (fun i _ => L.length - (intOf i).toNat)
  case atStart => exact ⟨0, by omega, by omega, rfl, S0⟩
  case round =>
    obtain ⟨j, hj, hj2, rfl, S1⟩ := hrel
    clear S0
    by_cases h1 : j < L.length
    · have hat := fdK_at (L := L) (x := x) hj2 h1
      have F1' := fun e => F1 j hj2 h1 e
      obtain ⟨ad, hA, hc0, hc1, hc2⟩ := S1.out.2.2.1.at_ h1
      have hd := vlu_eq3 x L[j]
      obtain ⟨-, ⟨z0, z1, z2, z3, -⟩, -⟩ := id S1.out
      subst hA
      by_cases hv : L[j] = x
      · have q := eq_val 9998 k a b L[j].1 L[j].2.1 L[j].2.2 true (by rw [hv, HX.out]; simp)
        have HF := Lib.hid ((F1' hv).out)
        clear F1 F2 F1' hat hd hv
        generalize L[j] = y at *
        go_wp2_with fail
        go_quiet (fail)
        go_wp2
        go_ret
        exact ⟨by rw [HF.out]; rfl, hbk ▸ below_draws S1.out.1 _⟩
      · have q := eq_val 9998 k a b L[j].1 L[j].2.1 L[j].2.2 false (by have := hd false (decide_eq_false fun e => hv e.symm); rw [HX.out] at this; exact this)
        have hj3 : j + 1 ≤ fdK L x := by have : j ≠ fdK L x := fun e => hv (hat.2 e); omega
        clear F1' hat hd hv
        generalize L[j] = y at *
        go_wp2_with fail
        go_quiet (fail)
        go_wp2
        go_roundw
        case rel => exact ⟨j + 1, by omega, hj3, by go_num, Lib.hid (S1.out.drewN _)⟩
        case measure => simp [intOf]; omega
    · have hj3 := fdK_le L x
      have HF := F2 (by omega)
      go_wp2_with fail
      go_ret
      exact ⟨by rw [HF.out]; rfl, hbk ▸ S1.out.1⟩
theorem pfind_any (A : Option Addr) (c m : Nat) (L : List Vlu) (k a b : Int) (w : World) (hr : Rv w A c L) (hm : L.length = m) : Calls Tryd.prog 12 #[.slice A m c, .agg #[.int .u8 k, .int .i64 a, .int .i64 b]] w fun e w' => e = .returned (.int .i64 (fdI L (k, a, b))) ∧ Below w.heap.size w w' := by
  have key := fun w hw => Lib.hid (sindex_any A c m L k a b w hw hm)
  generalize fdI L (k, a, b) = r at *
  have HR := Lib.hid (hr.keep (new1 (a := .cells #[.int .u8 k, .int .i64 a, .int .i64 b] 24)))
  clear hr
  go_enter Tryd.func12, Tryd.ntmps12
  go_wp2_with fail
  refine (key _ HR.out).out.mono ?_
  rintro e w1 ⟨rfl, hb⟩
  have HB := Lib.hid (below_on new1 hb)
  clear hb HR key
  go_wp2_with fail
  go_ret
  exact ⟨rfl, HB.out⟩
theorem kpmay (F : Fct) : KPMay F := fun A c m L w _ hr hm _ => pmay_any A c m L w hr hm
theorem kpfind (F : Fct) : KPFind F := fun A c m L k a b w _ hr hm _ _ => pfind_any A c m L k a b w hr hm
end Go.Proofs.YtohbndjfnakelaaDoor
