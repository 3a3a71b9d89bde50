/-
  Layer 5, package code: what put and Bytes answer, for every argument.
-/
import Derived.Test.YthmfjdafmnmgiaaCp
namespace Go.Proofs.Ythmfjdafmnmgiaa
open Go.RowKit
set_option maxRecDepth 100000
set_option linter.unusedSimpArgs false
set_option linter.unusedVariables false

theorem grown_of {w w' : World} (hb : Below w.heap.size w w') (row : Option Nat) : w.grownBy w' row := ⟨hb.os, hb.tape, hb.output, hb.size, fun i hi _ => hb.block i hi⟩
theorem In.grown {w w' : World} {B : Nat} {k a b : Int} (h : In w B k a b) {row : Option Nat} (hg : w.grownBy w' row) (hne : some B ≠ row) : In w' B k a b := by
  obtain ⟨h1, h2, h3, h4, h5, h6, h7⟩ := h
  have hB := hg.block B h1 hne
  have hc : ∀ i, w'.cell? ⟨B, i, none⟩ = w.cell? ⟨B, i, none⟩ := fun i => World.cell?_of_block (w := w) hB
  have hf : ∀ i, w'.frozen? ⟨B, i, none⟩ = w.frozen? ⟨B, i, none⟩ := fun i => World.frozen?_of_block (w := w) hB
  exact ⟨Nat.lt_of_lt_of_le h1 hg.size, (hc _).trans h2, (hc _).trans h3, (hc _).trans h4, (hf _).trans h5, (hf _).trans h6, (hf _).trans h7⟩
theorem own_same {w w' : World} {base e size n : Nat} {v : Value} {xs : List Value} (h : w.ownsRow base e size v n xs) (hb : Below w.heap.size w w') : w'.ownsRow base e size v n xs := own_below h hb (Nat.le_refl _)
theorem putL_1 {n : Int} (h0 : 0 ≤ n) (h : n < 256) : putL 1 n = [n] := by
  have := (put_yes (k := 1) (n := n) (by omega) (by omega) h0 (by simpa [p256] using h)).2
  rw [show ((1 : Nat) : Int) = 1 from rfl] at this
  rw [this]
  simp [digs]
  omega
theorem putL_2 {n : Int} (h0 : 0 ≤ n) (h : n ≤ 1024) : putL 2 n = [n % 256, n / 256] := by
  have := (put_yes (k := 2) (n := n) (by omega) (by omega) h0 (by simp [p256]; omega)).2
  rw [show ((2 : Nat) : Int) = 2 from rfl] at this
  rw [this]
  simp [digs]
  omega
/-- What stands behind an append: the same block, or a new one. -/
def Fresh (B : Nat) (v v' : Value) : Prop := v'.ownBlock = v.ownBlock ∨ ∃ g, v'.ownBlock = some g ∧ B ≤ g
end Go.Proofs.Ythmfjdafmnmgiaa
