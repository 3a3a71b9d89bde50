/-
  Layer 7, package method: what Same answers.
-/
import Derived.Test.YtmgppdjbmhjmbaaLk
namespace Go.Proofs.Ytmgppdjbmhjmbaa
open Go.RowKit
set_option maxRecDepth 100000
set_option linter.unusedSimpArgs false
set_option linter.unusedVariables false

theorem sequal_v (A B : Option Addr) (c d n m : Nat) (l k : List Int) (v : Bool) (w : World) (hr : Rd w A c l) (hs : Rd w B d k) (hn : l.length = n) (hm : k.length = m) (hv : (l == k) = v) :
    Calls Try.prog 46 #[.slice A n c, .slice B m d] w fun e w' => e = .returned (.bool v) ∧ Below w.heap.size w w' := by
  subst hn hm
  have hlen := hr.len
  have hlen2 := hs.len
  have HR := Lib.hid hr
  have HS := Lib.hid hs
  have HV := Lib.hid hv
  clear hr hs hv
  by_cases hl : l.length = k.length
  · go_enter Try.func46, Try.ntmps46
    go_wp2_with fail
    go_loopw [13] (fun i wr => ∃ j : Nat, j ≤ l.length ∧ i = .int .i64 j ∧ Hid (l.take j = k.take j) ∧ Hid (Below w.heap.size w wr)) (fun i _ => l.length - (intOf i).toNat)
    case atStart => exact ⟨0, by omega, rfl, rfl, Below.refl _ _⟩
    case round =>
      obtain ⟨j, hj, rfl, HT, HB⟩ := hrel
      by_cases h1 : j < l.length
      · have h2 : j < k.length := by omega
        obtain ⟨ad, rfl, hc⟩ := (HR.out.keep HB.out).at_ h1
        obtain ⟨bd, rfl, hd⟩ := (HS.out.keep HB.out).at_ h2
        rw [List.getElem?_eq_getElem h1] at hc
        rw [List.getElem?_eq_getElem h2] at hd
        simp only [Option.getD_some] at hc hd
        by_cases hx : l[j] = k[j]
        · have HN := Lib.hid (take_eq h1 h2 hx HT.out)
          clear HT
          rw [← hx] at hd
          clear hx
          generalize l[j] = x at *
          go_wp2_with fail
          go_quiet (fail)
          go_wp2_with fail
          go_roundw
          case rel => exact ⟨j + 1, by omega, by go_num, HN, Lib.hid (below_draws HB.out _)⟩
          case measure => simp [intOf]; omega
        · have HN : Hid (v = false) := by rw [Hid, ← HV.out]; exact beq_no (take_ne h1 h2 hx)
          clear HT
          generalize l[j] = x at *
          generalize k[j] = y at *
          go_wp2_with fail
          go_quiet (fail)
          go_wp2_with fail
          go_ret
          exact ⟨by rw [HN.out]; rfl, below_draws HB.out _⟩
      · obtain rfl : j = l.length := by omega
        have HN : Hid (v = true) := by
          rw [Hid, ← HV.out]
          have := HT.out
          rw [List.take_length, hl, List.take_length] at this
          simpa using this
        clear HT
        go_wp2_with fail
        go_ret
        exact ⟨by rw [HN.out]; rfl, HB.out⟩
  · have HN : Hid (v = false) := by rw [Hid, ← HV.out]; exact beq_no (fun e => hl (by rw [e]))
    go_enter Try.func46, Try.ntmps46
    go_wp2_with fail
    go_ret
    exact ⟨by rw [HN.out]; rfl, Below.refl _ _⟩
end Go.Proofs.Ytmgppdjbmhjmbaa
