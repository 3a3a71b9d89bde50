/-
  Pools, by definition: whether values are one, where a value is first; the reference's May and Find.
-/
import Derived.Test.YtohbndjfnakelaaDoorPv
import Derived.Test.YtohbndjfnakelaaDoorLe
namespace Go.Proofs.YtohbndjfnakelaaDoor
open Go.RowKit
set_option maxRecDepth 100000
set_option linter.unusedSimpArgs false
set_option linter.unusedVariables false

/-- Whether a value may be outside; whether values are a pool; where a value is first (how many values there are, if nowhere). -/
def vM (x : Vlu) : Bool := mayB x.1 x.2.1 x.2.2
def poM (L : List Vlu) : Bool := decide (L.length ≤ 32) && L.all vM
def fdK : List Vlu → Vlu → Nat
  | [], _ => 0
  | y :: L, x => if y = x then 0 else fdK L x + 1
def fdI (L : List Vlu) (x : Vlu) : Int := if fdK L x < L.length then fdK L x else -1
theorem fdK_le : ∀ (L : List Vlu) (x : Vlu), fdK L x ≤ L.length
  | [], _ => Nat.le_refl _
  | y :: L, x => by
    have := fdK_le L x
    rw [fdK, List.length_cons]
    split <;> omega
theorem fdK_at : ∀ {L : List Vlu} {x : Vlu} {j : Nat}, j ≤ fdK L x → (h : j < L.length) → (L[j] = x ↔ j = fdK L x)
  | [], _, _, _, h => by simp at h
  | y :: L, x, 0, hj, _ => by
    rw [fdK]
    by_cases e : y = x
    · simp [e]
    · simp [e]
  | y :: L, x, j + 1, hj, h => by
    by_cases e : y = x
    · rw [fdK, if_pos e] at hj; omega
    · rw [fdK, if_neg e] at hj ⊢
      have := fdK_at (L := L) (x := x) (j := j) (by omega) (by simpa using h)
      simp only [List.getElem_cons_succ]
      rw [this]
      omega
theorem fdI_hit {L : List Vlu} {x : Vlu} {j : Nat} (hj : j ≤ fdK L x) (h : j < L.length) (e : L[j] = x) : fdI L x = j := by
  have := (fdK_at hj h).1 e
  rw [fdI, if_pos (by omega), this]
theorem fdI_miss {L : List Vlu} {x : Vlu} (h : L.length ≤ fdK L x) : fdI L x = -1 := by rw [fdI, if_neg (by omega)]
theorem vlu_eq3 (x y : Vlu) (v : Bool) (h : decide (x = y) = v) : (x.1 == y.1 && x.2.1 == y.2.1 && x.2.2 == y.2.2) = v := by rw [vlu_eq, h]

theorem r6may_any (A : Option Addr) (c m : Nat) (L : List Vlu) (w : World) (hr : Rv w A c L) (hm : L.length = m) : Calls Tryd.prog 11 #[.slice A m c] w fun e w' => e = .returned (.bool (poM L)) ∧ Below w.heap.size w w' := by
  subst hm
  have hlen := hr.len
  have HR := Lib.hid hr
  clear hr
  go_enter Tryd.func11, Tryd.ntmps11
  go_wp2_with fail
  go_loopw [3] (fun i wr => ∃ j : Nat, j ≤ L.length ∧ j ≤ 33 ∧ i = .int .i64 j ∧ Hid ((L.take j).all vM = true) ∧ Hid (Below w.heap.size w wr)) (fun i _ => L.length - (intOf i).toNat)
  case atStart => exact ⟨0, by omega, by omega, rfl, rfl, Lib.hid (Below.refl _ _)⟩
  case round =>
    obtain ⟨j, hj, hj2, rfl, HA, HB⟩ := hrel
    by_cases h1 : j < L.length
    · by_cases h2 : j ≤ 32
      · obtain ⟨ad, rfl, hc0, hc1, hc2⟩ := (HR.out.keep HB.out).at_ h1
        go_wp2_with fail
        refine (r3may_v L[j].1 L[j].2.1 L[j].2.2 _ _ rfl).mono ?_
        rintro e w1 ⟨rfl, hb1⟩
        have HB1 := Lib.hid (below_on HB.out hb1)
        clear hb1 hc0 hc1 hc2 HB
        cases hv : mayB L[j].1 L[j].2.1 L[j].2.2 with
        | true =>
          have HN : Hid ((L.take (j + 1)).all vM = true) := by
            rw [Hid, List.take_add_one, List.getElem?_eq_getElem h1]
            simp only [Option.toList_some, List.all_append, HA.out, List.all_cons, List.all_nil, Bool.and_true, Bool.true_and]
            exact hv
          clear HA
          go_wp2_with fail
          go_roundw
          case rel => exact ⟨j + 1, by omega, by omega, by go_num, HN, HB1⟩
          case measure => simp [intOf]; omega
        | false =>
          have HN : Hid (poM L = false) := by
            have : L.all vM = false := List.all_eq_false.2 ⟨L[j], List.getElem_mem h1, by simp [vM, hv]⟩
            rw [Hid, poM, this, Bool.and_false]
          go_wp2_with fail
          go_ret
          exact ⟨by rw [HN.out]; rfl, HB1.out⟩
      · have HN : Hid (poM L = false) := by rw [Hid, poM, decide_eq_false (show ¬ L.length ≤ 32 by omega)]; simp
        go_wp2_with fail
        go_ret
        exact ⟨by rw [HN.out]; simp [go_sem]; omega, HB.out⟩
    · obtain rfl : j = L.length := by omega
      have HN : Hid (poM L = decide (L.length ≤ 32)) := by
        have h2 := HA.out
        rw [List.take_length] at h2
        rw [Hid, poM, h2, Bool.and_true]
      clear HA
      by_cases e2 : L.length ≤ 32
      · go_wp2_with fail
        go_ret
        exact ⟨by rw [HN.out, decide_eq_true e2]; simp [go_sem]; omega, HB.out⟩
      · go_wp2_with fail
        go_ret
        exact ⟨by rw [HN.out, decide_eq_false e2]; simp [go_sem]; omega, HB.out⟩
theorem r6find_any (A : Option Addr) (c m : Nat) (L : List Vlu) (k a b : Int) (w : World) (hr : Rv w A c L) (hm : L.length = m) : Calls Tryd.prog 13 #[.slice A m c, .agg #[.int .u8 k, .int .i64 a, .int .i64 b]] w fun e w' => e = .returned (.int .i64 (fdI L (k, a, b))) ∧ Below w.heap.size w w' := by
  subst hm
  have hlen := hr.len
  have HR := Lib.hid hr
  clear hr
  obtain ⟨x, hx⟩ : ∃ x : Vlu, x = (k, a, b) := ⟨_, rfl⟩
  have HX := Lib.hid hx
  rw [← hx]
  have F1 := fun j hj h e => Lib.hid (fdI_hit (L := L) (x := x) (j := j) hj h e)
  have F2 := fun h => Lib.hid (fdI_miss (L := L) (x := x) h)
  generalize fdI L x = r at *
  clear hx
  go_enter Tryd.func13, Tryd.ntmps13
  go_wp2_with fail
  have S0 := Lib.hid (((Sx.start w).add (fW A c L) HR.out).mkV k a b)
  clear HR
  generalize w.alloc (.cells #[.int .u8 k, .int .i64 a, .int .i64 b] 24) = w1 at S0 ⊢
  generalize hbk : w.heap.size = B at S0 ⊢
  go_loopw [5] (fun i wr => ∃ j : Nat, j ≤ L.length ∧ j ≤ fdK L x ∧ i = .int .i64 j ∧ Hid (Sx w wr [fV B k a b, fW A c L])) (fun i _ => L.length - (intOf i).toNat)
  case atStart => exact ⟨0, by omega, by omega, rfl, S0⟩
  case round =>
    obtain ⟨j, hj, hj2, rfl, S1⟩ := hrel
    clear S0
    by_cases h1 : j < L.length
    · have hat := fdK_at (L := L) (x := x) hj2 h1
      have F1' := fun e => F1 j hj2 h1 e
      obtain ⟨ad, hA, hc0, hc1, hc2⟩ := S1.out.2.2.1.at_ h1
      have hd := vlu_eq3 L[j] x
      obtain ⟨-, ⟨z0, z1, z2, z3, -⟩, -⟩ := id S1.out
      subst hA
      by_cases hv : L[j] = x
      · have q := eq_val 9998 L[j].1 L[j].2.1 L[j].2.2 k a b true (by rw [hv, HX.out]; simp)
        have HF := Lib.hid ((F1' hv).out)
        clear F1 F2 F1' hat hd hv
        generalize L[j] = y at *
        go_wp2_with fail
        go_quiet (fail)
        go_wp2
        go_ret
        exact ⟨by rw [HF.out]; rfl, hbk ▸ below_draws S1.out.1 _⟩
      · have q := eq_val 9998 L[j].1 L[j].2.1 L[j].2.2 k a b false (by have := hd false (decide_eq_false hv); rw [HX.out] at this; exact this)
        have hj3 : j + 1 ≤ fdK L x := by have : j ≠ fdK L x := fun e => hv (hat.2 e); omega
        clear F1' hat hd hv
        generalize L[j] = y at *
        go_wp2_with fail
        go_quiet (fail)
        go_wp2
        go_roundw
        case rel => exact ⟨j + 1, by omega, hj3, by go_num, Lib.hid (S1.out.drewN _)⟩
        case measure => simp [intOf]; omega
    · have hj3 := fdK_le L x
      have HF := F2 (by omega)
      go_wp2_with fail
      go_ret
      exact ⟨by rw [HF.out]; rfl, hbk ▸ S1.out.1⟩
end Go.Proofs.YtohbndjfnakelaaDoor
