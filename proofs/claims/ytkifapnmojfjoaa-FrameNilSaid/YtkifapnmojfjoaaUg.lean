/-
  Layer 16: what the program's frame is to answer (KF16); the laws walk over it.
-/
import Derived.Test.YtkifapnmojfjoaaUf
import Derived.Test.YtkifapnmojfjoaaTwo
namespace Go.Proofs.Ytkifapnmojfjoaa
open Go.RowKit
set_option maxRecDepth 100000
set_option linter.unusedSimpArgs false
set_option linter.unusedVariables false

/-- What is so behind a call that may have changed the frame. -/
def Up16 (P : (Nat → Prop) → World → Nat → Fm → Prop) (X : Nat → Prop) (w w' : World) (B : Nat) (f : Fm) : Prop := ∃ X', P X' w' B f ∧ Fr11 X w w' ∧ ∀ j, X' j → X j ∨ w.heap.size ≤ j
/-- What the program's frame is to answer. -/
structure KF16 where
  P : (Nat → Prop) → World → Nat → Fm → Prop
  fr : ∀ X Y w w' B f, P X w B f → Fr11 Y w w' → (∀ j, X j → ¬ Y j) → P X w' B f
  lt : ∀ X w B f, P X w B f → ∀ j, X j → j < w.heap.size
  new : ∀ (A1 A2 A3 : Option Addr) (c1 c2 c3 n1 n2 n3 : Nat) (a b : List Int) (v : List Vlu) (w : World), Rd w A1 c1 a → Rd w A2 c2 b → Rv w A3 c3 v → a.length = n1 → b.length = n2 → v.length = n3 → n1 ≤ 1000 → n2 ≤ 1000 → n3 ≤ 1000 →
    Calls Try.prog 7 #[.slice A1 n1 c1, .slice A2 n2 c2, .slice A3 n3 c3] w fun e w' => Below w.heap.size w w' ∧
      ((nB16 a b v = false ∧ e = .returned (.tuple #[.pointer none, .int .i64 2])) ∨ (nB16 a b v = true ∧ ∃ B X, e = .returned (.tuple #[.pointer (some ⟨B, 0, none⟩), .int .i64 0]) ∧ P X w' B (nF16 b v) ∧ ∀ j, X j → w.heap.size ≤ j))
  get : ∀ X B f i w, P X w B f → Calls Try.prog 17 #[.pointer (some ⟨B, 0, none⟩), .int .i64 i] w fun e w' => e = .returned (.tuple #[va16 (gV16 f i), .bool (gB16 f i)]) ∧ Below w.heap.size w w'
  set : ∀ X B f i v0 v1 v2 w, P X w B f → VlOk (v0, v1, v2) → Calls Try.prog 20 #[.pointer (some ⟨B, 0, none⟩), .int .i64 i, .agg #[.int .u8 v0, .int .i64 v1, .int .i64 v2]] w fun e w' => e = .returned (.bool (sB16 f i (v0, v1, v2))) ∧ Up16 P X w w' B (sF16 f i (v0, v1, v2))
  push : ∀ X B f v0 v1 v2 w, P X w B f → VlOk (v0, v1, v2) → Calls Try.prog 21 #[.pointer (some ⟨B, 0, none⟩), .agg #[.int .u8 v0, .int .i64 v1, .int .i64 v2]] w fun e w' => e = .returned (.bool (pB16 f (v0, v1, v2))) ∧ Up16 P X w w' B (pF16 f (v0, v1, v2))
  pop : ∀ X B f k w, P X w B f → 0 ≤ k → k < 256 → Calls Try.prog 18 #[.pointer (some ⟨B, 0, none⟩), .int .u8 k] w fun e w' => e = .returned (.tuple #[va16 (oV16 f k), .bool (oB16 f k)]) ∧ Up16 P X w w' B (oF16 f k)
  top : ∀ X B f w, P X w B f → Calls Try.prog 13 #[.pointer (some ⟨B, 0, none⟩)] w fun e w' => e = .returned (.tuple #[va16 (tV16 f), .bool (tB16 f)]) ∧ Below w.heap.size w w'
  size : ∀ X B f w, P X w B f → Calls Try.prog 10 #[.pointer (some ⟨B, 0, none⟩)] w fun e w' => e = .returned (.int .i64 (n16 f : Int)) ∧ Below w.heap.size w w'
  place : ∀ X B f w, P X w B f → Calls Try.prog 12 #[.pointer (some ⟨B, 0, none⟩)] w fun e w' => e = .returned (.int .i64 f.p) ∧ Below w.heap.size w w'
  go : ∀ X B f p w, P X w B f → Calls Try.prog 15 #[.pointer (some ⟨B, 0, none⟩), .int .i64 p] w fun e w' => e = .returned (.tuple #[]) ∧ Up16 P X w w' B (goF16 f p)
  begin_ : ∀ X B f x n w, P X w B f → f.q ≤ 90000 → -9223372036854775808 ≤ x ∧ x ≤ 9223372036854775807 → -9223372036854775808 ≤ n → n ≤ 9223372036854775807 → Calls Try.prog 16 #[.pointer (some ⟨B, 0, none⟩), .int .i64 x, .int .i64 n] w fun e w' => e = .returned (.tuple #[]) ∧ Up16 P X w w' B (bF16 f x n)
  again : ∀ X B f x w, P X w B f → f.q ≤ 90000 → -9223372036854775808 ≤ x ∧ x ≤ 9223372036854775807 → Calls Try.prog 19 #[.pointer (some ⟨B, 0, none⟩), .int .i64 x] w fun e w' => e = .returned (.tuple #[.bool (aM16 f x), .bool (aB16 f x)]) ∧ Up16 P X w w' B (aF16 f x)
abbrev tK16 (K : KF16) (X : Nat → Prop) (B : Nat) (f : Fm) : Th15 := ⟨fun w => K.P X w B f, X, fun w w' Y h hf hx => K.fr X Y w w' B f h hf hx, fun w h => K.lt X w B f h⟩
abbrev tQ16 (X : Nat → Prop) (B : Nat) (f : Fm) : Th15 := ⟨fun w => Rf16 X w B f, X, fun _ _ _ h hf hx => h.fr hf hx, fun w h => by obtain ⟨_, _, _, _, _, _, _, _, _, _, _, _, h⟩ := h; exact h⟩
/-- An act: kind, index, number, value. -/
structure A16 where
  k : Int
  i : Int
  n : Int
  v : Vlu
def Ok16 (y : A16) : Prop := (0 ≤ y.k ∧ y.k < 256) ∧ (-9223372036854775808 ≤ y.i ∧ y.i ≤ 9223372036854775807) ∧ (-9223372036854775808 ≤ y.n ∧ y.n ≤ 9223372036854775807) ∧ VlOk y.v
def ac16 (k i n v0 v1 v2 : Int) : Array Value := #[.int .u8 k, .int .i64 i, .int .i64 n, .int .u8 v0, .int .i64 v1, .int .i64 v2]
theorem abx16 {w : World} {P t : Nat} {k i n v0 v1 v2 : Int} (h : w.heap[P]? = some (.cells (ac16 k i n v0 v1 v2) t (0, 0))) : w.cell? ⟨P, 0, none⟩ = some (.int .u8 k) ∧ w.cell? ⟨P, 1, none⟩ = some (.int .i64 i) ∧ w.cell? ⟨P, 2, none⟩ = some (.int .i64 n) ∧ w.cell? ⟨P, 3, none⟩ = some (.int .u8 v0) ∧ w.cell? ⟨P, 4, none⟩ = some (.int .i64 v1) ∧ w.cell? ⟨P, 5, none⟩ = some (.int .i64 v2) := by
  refine ⟨?_, ?_, ?_, ?_, ?_, ?_⟩ <;> simp [World.cell?, h, ac16]
theorem Two15.leftU {w0 w w' : World} {K : KF16} {X : Nat → Prop} {B : Nat} {f f' : Fm} {T : Th15} (h : Two15 w0 w (tK16 K X B f) T) (hu : Up16 K.P X w w' B f') : ∃ X', Two15 w0 w' (tK16 K X' B f') T ∧ Fr11 X w w' ∧ ∀ j, X' j → X j ∨ w.heap.size ≤ j := by
  obtain ⟨X', h1, h2, h3⟩ := hu
  exact ⟨X', h.left (S' := tK16 K X' B f') h1 h2 h3, h2, h3⟩
theorem Two15.rightU {w0 w w' : World} {X : Nat → Prop} {B : Nat} {f f' : Fm} {S : Th15} (h : Two15 w0 w S (tQ16 X B f)) (hu : ∃ X', Rf16 X' w' B f' ∧ Fr11 X w w' ∧ ∀ j, X' j → X j ∨ w.heap.size ≤ j) : ∃ X', Two15 w0 w' S (tQ16 X' B f') ∧ Fr11 X w w' ∧ ∀ j, X' j → X j ∨ w.heap.size ≤ j := by
  obtain ⟨X', h1, h2, h3⟩ := hu
  exact ⟨X', h.right (T' := tQ16 X' B f') h1 h2 h3, h2, h3⟩
theorem rgo16 {X : Nat → Prop} {w : World} {B : Nat} {f : Fm} (h : Rf16 X w B f) (p : Int) : w.cell? ⟨B, 2, none⟩ = some (.int .i64 f.p) ∧ w.frozen? ⟨B, 2, none⟩ = false ∧ Rf16 X (w.setCell ⟨B, 2, none⟩ (.int .i64 p)) B (goF16 f p) ∧ Fr11 X w (w.setCell ⟨B, 2, none⟩ (.int .i64 p)) := by
  obtain ⟨A, A2, A3, c, c2, c3, T, h, x0, x1, x2, x3, x4⟩ := h
  have hs : Fr11 (fun j => j = B) w (w.setCell ⟨B, 2, none⟩ (.int .i64 p)) := (Fr11.refl (fun j => j = B) w).set (p := ⟨B, 2, none⟩) (.inr rfl) _
  refine ⟨h.c0.2.2.1, h.fz 2, ⟨A, A2, A3, c, c2, c3, T, ⟨?_, own_fr16 h.rl hs (fun a ha e => h.Bl ha e.symm), own_fr16 h.rs hs (fun a ha e => h.Bs ha e.symm), own_fr16 h.rt hs (fun a ha e => h.Bt ha e.symm), h.ap, h.ok, h.many, h.nd, h.pos, h.tt, h.tq⟩, x0, x1, x2, x3, fun j hj => by simpa using x4 j hj⟩, hs.mono fun j hj => by rw [hj]; exact x0⟩
  rw [heap_setCell_same w B 2 _ _ _ h.box]
  rfl
theorem q_s16 {f : Fm} {i : Int} {v : Vlu} : (sF16 f i v).q = f.q := by unfold sF16; split <;> rfl
theorem q_p16 {f : Fm} {v : Vlu} : (pF16 f v).q = f.q := by unfold pF16; split <;> rfl
theorem q_o16 {f : Fm} {k : Int} : (oF16 f k).q = f.q := by unfold oF16; split <;> rfl
theorem q_a16 {f : Fm} {x : Int} : (aF16 f x).q ≤ f.q + 1 := by
  unfold aF16
  split
  · exact Nat.le_refl _
  · omega
end Go.Proofs.Ytkifapnmojfjoaa
