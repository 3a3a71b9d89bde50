/-
  A step of code that flows well, on lists: how it goes on from the place p, by the operation there; how many steps.
-/
import Derived.Test.YtmgppdjbmhjmbaaGreatLs
namespace Go.Proofs.YtmgppdjbmhjmbaaGreat
open Go.RowKit
set_option linter.unusedSimpArgs false
set_option linter.unusedVariables false

section
variable {l : List Ins} {out : List Lp} {p : Nat} {came lf : Nat → Nat} {st : Bool}
theorem In9.more (hw : Wl9 l out) (h : In9 l out p came lf st) (h1 : iO9 l p ≠ 31) (h2 : iO9 l p ≠ 32) : p + 1 < l.length := by
  have := h.lt
  by_cases e : p = l.length - 1
  · rcases hw.last with a | a <;> rw [← e] at a <;> omega
  · omega
theorem In9.go_on (hw : Wl9 l out) (h : In9 l out p came lf st) (h1 : iO9 l p ≠ 31) (h2 : iO9 l p ≠ 32) (h3 : iO9 l p ≠ 28) (h4 : iO9 l p ≠ 29) {st' : Bool} (hst : st' = true → st = true) :
    p + 1 < l.length ∧ In9 l out (p + 1) (put9 came p (came p + 1)) lf st' :=
  ⟨h.more hw h1 h2, h.next hw hst (h.more hw h1 h2) (fun x hx e => absurd (e ▸ (hw.mem x hx).2.2.2.1) h4) (fun _ _ _ _ => rfl) (fun x hx e => absurd (e ▸ (hw.mem x hx).2.2.1) h3)⟩
theorem In9.go_loop (hw : Wl9 l out) (h : In9 l out p came lf st) (ho : iO9 l p = 28) :
    p + 1 < l.length ∧ 1 ≤ iA9 l p ∧ iA9 l p ≤ 100 ∧ In9 l out (p + 1) (put9 came p (came p + 1)) (put9 lf p (iA9 l p).toNat) st := by
  have hm := h.more hw (by omega) (by omega)
  obtain ⟨x0, h0, e0⟩ := hw.ofL p h.lt ho
  obtain ⟨-, -, -, -, -, m6, m7, m8⟩ := hw.mem x0 h0
  rw [e0] at m6
  rw [m6] at m7 m8
  refine ⟨hm, m7, m8, h.next hw id hm (fun x hx e => ?_) (fun x hx h5 _ => ?_) (fun x hx e => ?_)⟩
  · have := (hw.mem x hx).2.2.2.1
    rw [e] at this
    omega
  · rw [wi9_iff] at h5
    unfold put9
    rw [if_neg (by omega)]
  · have := (hw.mem x hx).2.2.2.2.2.1
    rw [e] at this
    unfold put9 K9
    rw [if_pos e, this]
theorem In9.go_again (hw : Wl9 l out) (h : In9 l out p came lf st) (ho : iO9 l p = 29) :
    ∃ f : Nat, iA9 l p = f ∧ f < p ∧ 1 ≤ lf f ∧ lf f ≤ 100 ∧ (2 ≤ lf f → In9 l out (f + 1) (put9 came p (came p + 1)) (put9 lf f (lf f - 1)) st) ∧ (lf f = 1 → p + 1 < l.length ∧ In9 l out (p + 1) (put9 came p (came p + 1)) (put9 lf f 0) st) := by
  have hm := h.more hw (by omega) (by omega)
  obtain ⟨x0, h0, e0⟩ := hw.ofA p h.lt ho
  obtain ⟨m1, -, -, -, m5, -, m7, m8⟩ := hw.mem x0 h0
  obtain ⟨t1, t2⟩ := h.tl x0 h0 ((wi9_iff).2 ⟨by omega, by omega⟩)
  rw [e0] at m5 m1
  refine ⟨x0.1, m5, m1, t1, by unfold K9 at t2; omega, fun h2 => h.back hw h0 e0.symm h2, fun h2 => ⟨hm, h.next hw id hm (fun x hx e => ?_) (fun x hx h5 h6 => ?_) (fun x hx e => ?_)⟩⟩
  · rw [hw.uniqT hx h0 (by omega)]
    exact h2
  · unfold put9
    rw [if_neg]
    intro e
    rw [hw.uniq hx h0 e, wi9_iff] at h6
    omega
  · have := (hw.mem x hx).2.2.1
    rw [e] at this
    omega
theorem In9.go_jump (hw : Wl9 l out) (h : In9 l out p came lf st) (ho : iO9 l p = 26 ∨ iO9 l p = 27) :
    ∃ a : Nat, iA9 l p = a ∧ a < l.length ∧ In9 l out a (put9 came p (came p + 1)) lf false := by
  obtain ⟨j1, j2, j3⟩ := hw.jump p h.lt ho
  obtain ⟨a, ha⟩ : ∃ a : Nat, iA9 l p = a := ⟨(iA9 l p).toNat, by omega⟩
  rw [ha] at j1 j2 j3
  exact ⟨a, ha, by omega, h.jump hw (by omega) (by omega) (fun x hx h5 => j3 x hx (by simpa using h5))⟩
def sm9 (f : Nat → Nat) (n : Nat) : Nat := ((List.range n).map f).sum
theorem sm9_succ (f : Nat → Nat) (n : Nat) : sm9 f (n + 1) = sm9 f n + f n := by
  simp [sm9, List.range_succ]
theorem sm9_zero : ∀ n, sm9 (fun _ => 0) n = 0
  | 0 => rfl
  | n + 1 => by rw [sm9_succ, sm9_zero n]
theorem sm9_le {f g : Nat → Nat} : ∀ n, (∀ q, q < n → f q ≤ g q) → sm9 f n ≤ sm9 g n
  | 0, _ => Nat.le_refl _
  | n + 1, h => by
    rw [sm9_succ, sm9_succ]
    exact Nat.add_le_add (sm9_le n (fun q hq => h q (by omega))) (h n (by omega))
end
end Go.Proofs.YtmgppdjbmhjmbaaGreat
