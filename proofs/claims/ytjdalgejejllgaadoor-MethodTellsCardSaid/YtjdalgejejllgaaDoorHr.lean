/-
  What the document's own answers of layer 7 are, those that tell of a head: kinds, whether it may be, whether two are the same, how great it is.
-/
import Derived.Test.YtjdalgejejllgaaDoorHh
namespace Go.Proofs.YtjdalgejejllgaaDoor
open Go.RowKit
set_option maxRecDepth 100000
set_option linter.unusedSimpArgs false
set_option linter.unusedVariables false

theorem kO_take {l : List Int} {j : Nat} (hj : j < l.length) (h : kO (l.take j) = true) : kO (l.take (j + 1)) = (decide (1 ≤ l[j]) && decide (l[j] ≤ 3)) := by
  unfold kO at *
  rw [List.take_add_one, List.all_append, h, List.getElem?_eq_getElem hj]
  simp
theorem kO_no {l : List Int} {j : Nat} (hj : j < l.length) (h : ¬ (1 ≤ l[j] ∧ l[j] ≤ 3)) : kO l = false := by
  unfold kO
  rw [List.all_eq_false]
  exact ⟨l[j], List.getElem_mem hj, by simpa using h⟩
theorem r7kinds_v (A : Option Addr) (c n : Nat) (l : List Int) (v : Bool) (w : World) (hr : Rd w A c l) (hn : l.length = n) (hv : kO l = v) :
    Calls Tryd.prog 33 #[.slice A n c] w fun e w' => e = .returned (.bool v) ∧ w = w' := by
  subst hn
  have hlen := hr.len
  have HR := Lib.hid hr
  have HV := Lib.hid hv
  clear hr hv
  go_enter Tryd.func33, Tryd.ntmps33
  go_wp2_with fail
  go_loopw [3] (fun i wr => ∃ j : Nat, j ≤ l.length ∧ i = .int .i64 j ∧ Hid (kO (l.take j) = true) ∧ Hid (w = wr)) (fun i _ => l.length - (intOf i).toNat)
  case atStart => exact ⟨0, by omega, rfl, rfl, rfl⟩
  case round =>
    obtain ⟨j, hj, rfl, HA, HW⟩ := hrel
    have HR1 : Hid (Rd wr A c l) := by rw [Hid, ← HW.out]; exact HR.out
    by_cases h1 : j < l.length
    · obtain ⟨ad, rfl, hc⟩ := HR1.out.at_ h1
      rw [List.getElem?_eq_getElem h1] at hc
      simp only [Option.getD_some] at hc
      by_cases hx : 1 ≤ l[j] ∧ l[j] ≤ 3
      · have HN : Hid (kO (l.take (j + 1)) = true) := by rw [Hid, kO_take h1 HA.out]; simpa using hx
        have hx3 : l[j] = 1 ∨ l[j] = 2 ∨ l[j] = 3 := by omega
        clear hx HA
        rcases hx3 with hx | hx | hx <;> rw [hx] at hc
        all_goals
          clear hx
          go_wp2_with fail
          go_roundw
          case rel => exact ⟨j + 1, by omega, by go_num, HN, HW⟩
          case measure => simp [intOf]; omega
      · have HN : Hid (v = false) := by rw [Hid, ← HV.out]; exact kO_no h1 hx
        generalize l[j] = x at *
        have e1 : (x != 1) = true := by simp; omega
        have e2 : (x != 2) = true := by simp; omega
        have e3 : (x != 3) = true := by simp; omega
        clear hx HA
        go_wp2_with fail
        go_ret
        exact ⟨by rw [HN.out]; rfl, HW.out⟩
    · obtain rfl : j = l.length := by omega
      have HN : Hid (v = true) := by rw [Hid, ← HV.out]; have := HA.out; rwa [List.take_length] at this
      clear HA
      go_wp2_with fail
      go_ret
      exact ⟨by rw [HN.out]; rfl, HW.out⟩
theorem take_ne {l k : List Int} {j : Nat} (h1 : j < l.length) (h2 : j < k.length) (h : ¬ l[j] = k[j]) : ¬ l = k := by
  intro e
  subst e
  exact h rfl
theorem take_eq {l k : List Int} {j : Nat} (h1 : j < l.length) (h2 : j < k.length) (h : l[j] = k[j]) (ht : l.take j = k.take j) : l.take (j + 1) = k.take (j + 1) := by
  rw [List.take_add_one, List.take_add_one, List.getElem?_eq_getElem h1, List.getElem?_eq_getElem h2, h, ht]
theorem beq_no {l k : List Int} (h : ¬ l = k) : (l == k) = false := by simpa using h
theorem r7same_v (A B : Option Addr) (c d n m : Nat) (l k : List Int) (v : Bool) (w : World) (hr : Rd w A c l) (hs : Rd w B d k) (hn : l.length = n) (hm : k.length = m) (hv : (l == k) = v) :
    Calls Tryd.prog 23 #[.slice A n c, .slice B m d] w fun e w' => e = .returned (.bool v) ∧ Below w.heap.size w w' := by
  subst hn hm
  have hlen := hr.len
  have hlen2 := hs.len
  have HR := Lib.hid hr
  have HS := Lib.hid hs
  have HV := Lib.hid hv
  clear hr hs hv
  by_cases hl : l.length = k.length
  · go_enter Tryd.func23, Tryd.ntmps23
    go_wp2_with fail
    go_loopw [5] (fun i wr => ∃ j : Nat, j ≤ l.length ∧ i = .int .i64 j ∧ Hid (l.take j = k.take j) ∧ Hid (Below w.heap.size w wr)) (fun i _ => l.length - (intOf i).toNat)
    case atStart => exact ⟨0, by omega, rfl, rfl, Below.refl _ _⟩
    case round =>
      obtain ⟨j, hj, rfl, HT, HB⟩ := hrel
      by_cases h1 : j < l.length
      · have h2 : j < k.length := by omega
        obtain ⟨ad, rfl, hc⟩ := (HR.out.keep HB.out).at_ h1
        obtain ⟨bd, rfl, hd⟩ := (HS.out.keep HB.out).at_ h2
        rw [List.getElem?_eq_getElem h1] at hc
        rw [List.getElem?_eq_getElem h2] at hd
        simp only [Option.getD_some] at hc hd
        by_cases hx : l[j] = k[j]
        · have HN := Lib.hid (take_eq h1 h2 hx HT.out)
          clear HT
          rw [← hx] at hd
          clear hx
          generalize l[j] = x at *
          go_wp2_with fail
          go_quiet (fail)
          go_wp2_with fail
          go_roundw
          case rel => exact ⟨j + 1, by omega, by go_num, HN, Lib.hid (below_draws HB.out _)⟩
          case measure => simp [intOf]; omega
        · have HN : Hid (v = false) := by rw [Hid, ← HV.out]; exact beq_no (take_ne h1 h2 hx)
          clear HT
          generalize l[j] = x at *
          generalize k[j] = y at *
          go_wp2_with fail
          go_quiet (fail)
          go_wp2_with fail
          go_ret
          exact ⟨by rw [HN.out]; rfl, below_draws HB.out _⟩
      · obtain rfl : j = l.length := by omega
        have HN : Hid (v = true) := by
          rw [Hid, ← HV.out]
          have := HT.out
          rw [List.take_length, hl, List.take_length] at this
          simpa using this
        clear HT
        go_wp2_with fail
        go_ret
        exact ⟨by rw [HN.out]; rfl, HB.out⟩
  · have HN : Hid (v = false) := by rw [Hid, ← HV.out]; exact beq_no (fun e => hl (by rw [e]))
    go_enter Tryd.func23, Tryd.ntmps23
    go_wp2_with fail
    go_ret
    exact ⟨by rw [HN.out]; rfl, Below.refl _ _⟩
end Go.Proofs.YtjdalgejejllgaaDoor
