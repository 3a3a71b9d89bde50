/-
  Slices of instructions (three cells each) that read as a list ('Ri'), and what keeps them so.
-/
import Derived.Test.YthmfjdafmnmgiaaDoorOpm
namespace Go.Proofs.YthmfjdafmnmgiaaDoor
open Go.RowKit
set_option linter.unusedSimpArgs false
set_option linter.unusedVariables false

/-- An instruction's three numbers. -/
abbrev Ins := Int × Int × Int
def InOk (x : Ins) : Prop := (0 ≤ x.1 ∧ x.1 < 256) ∧ (-9223372036854775808 ≤ x.2.1 ∧ x.2.1 ≤ 9223372036854775807) ∧ (-9223372036854775808 ≤ x.2.2 ∧ x.2.2 ≤ 9223372036854775807)
/-- The slice at A, of capacity c, reads as the instructions L. -/
def Ri (w : World) (A : Option Addr) (c : Nat) (L : List Ins) : Prop :=
  (∀ x ∈ L, InOk x) ∧ L.length ≤ c ∧ c ≤ maxLen ∧ ((A = none ∧ c = 0) ∨ ∃ ad : Addr, A = some ad ∧ ∀ i x, L[i]? = some x → w.cell? (ad.add (i * 3)) = some (.int .u8 x.1) ∧ w.cell? ⟨(ad.add (i * 3)).block, (ad.add (i * 3)).off + 1, none⟩ = some (.int .i64 x.2.1) ∧ w.cell? ⟨(ad.add (i * 3)).block, (ad.add (i * 3)).off + 2, none⟩ = some (.int .i64 x.2.2))
/-- The cells of instructions. -/
def cei (L : List Ins) : List Value := L.flatMap fun x => [.int .u8 x.1, .int .i64 x.2.1, .int .i64 x.2.2]
section
variable {w w' : World} {A : Option Addr} {c : Nat} {L : List Ins}
theorem Ri.le (h : Ri w A c L) : L.length ≤ c := h.2.1
theorem Ri.len (h : Ri w A c L) : L.length ≤ 9223372036854775807 := Nat.le_trans h.le h.2.2.1
theorem Ri.at_ (h : Ri w A c L) {i : Nat} (hi : i < L.length) : ∃ ad : Addr, A = some ad ∧ w.cell? (ad.add (i * 3)) = some (.int .u8 (L[i]).1) ∧ w.cell? ⟨(ad.add (i * 3)).block, (ad.add (i * 3)).off + 1, none⟩ = some (.int .i64 (L[i]).2.1) ∧ w.cell? ⟨(ad.add (i * 3)).block, (ad.add (i * 3)).off + 2, none⟩ = some (.int .i64 (L[i]).2.2) := by
  rcases h.2.2.2 with ⟨_, hc⟩ | ⟨ad, ha, hc⟩
  · have := h.le; omega
  · exact ⟨ad, ha, hc i _ (List.getElem?_eq_getElem hi)⟩
theorem Ri.none_ (w : World) : Ri w none 0 [] := ⟨fun x hx => (by cases hx), Nat.le_refl _, Nat.zero_le _, .inl ⟨rfl, rfl⟩⟩
theorem Ri.keep (h : Ri w A c L) (hb : Below w.heap.size w w') : Ri w' A c L := by
  refine ⟨h.1, h.2.1, h.2.2.1, ?_⟩
  rcases h.2.2.2 with hn | ⟨ad, ha, hc⟩
  · exact .inl hn
  · refine .inr ⟨ad, ha, fun i x hx => ?_⟩
    obtain ⟨h1, h2, h3⟩ := hc i x hx
    exact ⟨(hb.cell (cell_lt h1)).trans h1, (hb.cell (cell_lt h2)).trans h2, (hb.cell (cell_lt h3)).trans h3⟩
theorem Ri.drewN (h : Ri w A c L) (q : Nat) : Ri (w.drewN q) A c L := h
end
abbrev fT (A : Option Addr) (c : Nat) (L : List Ins) : Fct := ⟨fun w => Ri w A c L, fun _ _ h hb => h.keep hb⟩

/-- Whether instructions are code. -/
def inM (x : Ins) : Bool := opM x.1 x.2.1 x.2.2
def codM (L : List Ins) : Bool := decide (1 ≤ L.length) && decide (L.length ≤ 200) && L.all inM
/-- Whether something may stand behind an operation. -/
def wdB (n : Int) : Bool := decide (0 < opHi n)
theorem wide_any (n : Int) (w : World) : Calls Tryd.prog 22 #[.int .u8 n] w fun e w' => e = .returned (.bool (wdB n)) ∧ w = w' := by
  have hB := Lib.hid (r4bounds_any n w)
  rw [wdB]
  generalize opLo n = p at *
  generalize opHi n = q at *
  go_enter Tryd.func22, Tryd.ntmps22
  go_wp2_with fail
  refine hB.out.mono ?_
  rintro e w1 ⟨rfl, rfl⟩
  go_wp2_with fail
  go_ret
  exact ⟨rfl, rfl⟩

/-- May: the first that may not be; or all may. -/
theorem r5may_any (A : Option Addr) (c m : Nat) (L : List Ins) (w : World) (hr : Ri w A c L) (hm : L.length = m) : Calls Tryd.prog 13 #[.slice A m c] w fun e w' => e = .returned (.bool (codM L)) ∧ Below w.heap.size w w' := by
  subst hm
  have hlen := hr.len
  have HR := Lib.hid hr
  clear hr
  go_enter Tryd.func13, Tryd.ntmps13
  go_wp2_with fail
  go_loopw [3] (fun i wr => ∃ j : Nat, j ≤ L.length ∧ j ≤ 201 ∧ i = .int .i64 j ∧ Hid ((L.take j).all inM = true) ∧ Hid (Below w.heap.size w wr)) (fun i _ => L.length - (intOf i).toNat)
  case atStart => exact ⟨0, by omega, by omega, rfl, rfl, Lib.hid (Below.refl _ _)⟩
  case round =>
    obtain ⟨j, hj, hj2, rfl, HA, HB⟩ := hrel
    by_cases h1 : j < L.length
    · by_cases h2 : j ≤ 200
      · obtain ⟨ad, rfl, hc0, hc1, hc2⟩ := (HR.out.keep HB.out).at_ h1
        go_wp2_with fail
        refine (r4may_v L[j].1 L[j].2.1 L[j].2.2 _ _ rfl).mono ?_
        rintro e w1 ⟨rfl, hb1⟩
        have HB1 := Lib.hid (below_on HB.out hb1)
        clear hb1 hc0 hc1 hc2 HB
        cases hv : opM L[j].1 L[j].2.1 L[j].2.2 with
        | true =>
          have HN : Hid ((L.take (j + 1)).all inM = true) := by
            rw [Hid, List.take_add_one, List.getElem?_eq_getElem h1]
            simp only [Option.toList_some, List.all_append, HA.out, List.all_cons, List.all_nil, Bool.and_true, Bool.true_and]
            exact hv
          clear HA
          go_wp2_with fail
          go_roundw
          case rel => exact ⟨j + 1, by omega, by omega, by go_num, HN, HB1⟩
          case measure => simp [intOf]; omega
        | false =>
          have HN : Hid (codM L = false) := by
            have : L.all inM = false := List.all_eq_false.2 ⟨L[j], List.getElem_mem h1, by simp [inM, hv]⟩
            rw [Hid, codM, this, Bool.and_false]
          go_wp2_with fail
          go_ret
          exact ⟨by rw [HN.out]; rfl, HB1.out⟩
      · have HN : Hid (codM L = false) := by rw [Hid, codM, decide_eq_false (show ¬ L.length ≤ 200 by omega)]; simp
        go_wp2_with fail
        go_ret
        exact ⟨by rw [HN.out]; simp [go_sem]; omega, HB.out⟩
    · obtain rfl : j = L.length := by omega
      have HN : Hid (codM L = (decide (1 ≤ L.length) && decide (L.length ≤ 200))) := by
        have h2 := HA.out
        rw [List.take_length] at h2
        rw [Hid, codM, h2, Bool.and_true]
      clear HA
      by_cases e1 : 1 ≤ L.length
      · by_cases e2 : L.length ≤ 200
        · go_wp2_with fail
          go_ret
          exact ⟨by rw [HN.out, decide_eq_true e1, decide_eq_true e2]; simp [go_sem]; omega, HB.out⟩
        · go_wp2_with fail
          go_ret
          exact ⟨by rw [HN.out, decide_eq_true e1, decide_eq_false e2]; simp [go_sem]; omega, HB.out⟩
      · go_wp2_with fail
        go_ret
        exact ⟨by rw [HN.out, decide_eq_false e1]; rfl, HB.out⟩
end Go.Proofs.YthmfjdafmnmgiaaDoor
