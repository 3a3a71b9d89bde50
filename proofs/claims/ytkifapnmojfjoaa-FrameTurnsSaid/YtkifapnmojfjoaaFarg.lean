/-
  A slice of Booleans that came in as an argument reads as a list.
-/
import Derived.Test.YtkifapnmojfjoaaFrb
import Derived.ProofKit
import Derived.OpenShut
import Derived.ChangeSame
import Derived.Deep.Slices
import Derived.Deep.Fields
namespace Go.Proofs.Ytkifapnmojfjoaa
open Go.ChangeShapes Go.WideShapes Go.ChangeAt Go.RowKit Go.Deep
set_option maxRecDepth 100000

theorem open_bools9 {H : Type} {enc : TypeId × Value → H} {w : World} {base : Nat} {sp : Nat → Bool} {held : Bool} {fuel : Nat} {cs : List Value} {x : DataW H × List MemPlace} (h : DataW.trod enc Try.prog w base sp held fuel 61 cs = some x) :
    cs = [.slice none 0 0] ∨ ∃ (a : Addr) (len cap : Nat) (L : List Bool), cs = [.slice (some a) len cap] ∧ L.length = len ∧ Rb9 w (some a) cap L := by
  have hC : Try.prog.cellsOf 4 = 1 := by kernel_rfl
  rcases open_slice Try.underlying61 h with ⟨h0, _⟩ | ⟨a, len, cap, m, n, D, Pl, hcs, hb, hl, hm, hmm, hx, hi⟩
  · exact .inl h0
  · rw [hC] at hi
    have hle : len ≤ m := by rw [hmm]; split <;> omega
    have hy : ∀ i, i < len → ∃ y : Bool, w.cell? (a.add i) = some (.bool y) := by
      intro i hil
      obtain ⟨cs', hc, ht⟩ := hi i (by omega)
      obtain ⟨y, hok, -⟩ := DataW.trod_bool Try.underlying4 ht
      subst hok
      obtain ⟨_, _, hat⟩ := World.cells?_some hc
      have q0 := hat 0 (by omega)
      rw [add_add] at q0
      exact ⟨y, by simpa using q0⟩
    refine .inr ⟨a, len, cap, (List.range len).map fun i => if hil : i < len then (hy i hil).choose else false, hcs, by simp, by simp; omega, hm, .inr ⟨a, rfl, ?_⟩⟩
    intro i y hiy
    have hil : i < len := by simpa using (List.getElem?_eq_some_iff.1 hiy).1
    rw [List.getElem?_map, List.getElem?_range hil, Option.map_some, dif_pos hil] at hiy
    obtain rfl := Option.some.inj hiy
    exact (hy i hil).choose_spec
/-- What the walk is told of a slice of Booleans that came in. -/
theorem row_bools {H : Type} {enc : TypeId × Value → H} {w : World} {base : Nat} {sp : Nat → Bool} {held : Bool} {A : Option Addr} {n c : Nat} {d : DataW H} {p : List MemPlace} (h : DataW.Trod enc Try.prog w base sp held 61 (.slice A n c) d p) : ∃ L : List Bool, L.length = n ∧ Rb9 w A c L := by
  obtain ⟨fuel, hf⟩ := h
  rcases open_bools9 hf with h0 | ⟨a, len, cap, L, h0, hl, hr⟩
  · simp [Value.cells] at h0
    obtain ⟨rfl, rfl, rfl⟩ := h0
    exact ⟨[], rfl, Nat.zero_le _, Nat.zero_le _, .inl ⟨rfl, rfl⟩⟩
  · simp [Value.cells] at h0
    obtain ⟨rfl, rfl, rfl⟩ := h0
    exact ⟨L, hl, hr⟩
end Go.Proofs.Ytkifapnmojfjoaa
