/-
  What the functions of package gauss do, each a contract for every argument.
-/
import Derived.Test.YthmfjdafmnmgiaaDoorFlt
import Derived.Test.YthmfjdafmnmgiaaDoorChecked
import Derived.WalkKit
import Derived.Below
import Derived.Handy
import Derived.Lib.Hide
import Derived.Deep.QuietTactic
import Derived.BigQuiet
import Derived.Deep.DeepCutAuto
import Derived.Deep.RegionHeld3
import Derived.WalkSpells
import Derived.WalkLawsBesides
import Derived.Deep.RegionWith
namespace Go.Proofs.YthmfjdafmnmgiaaDoor
open Go.RowKit

theorem bcell {W w1 : World} (hb : Below W.heap.size W w1) : (∀ b o, b < W.heap.size → w1.cell? ⟨b, o, none⟩ = W.cell? ⟨b, o, none⟩) ∧ (∀ b o, b < W.heap.size → w1.frozen? ⟨b, o, none⟩ = W.frozen? ⟨b, o, none⟩) :=
  ⟨fun b o h => hb.cell (p := ⟨b, o, none⟩) h, fun b o h => hb.frozen (p := ⟨b, o, none⟩) h⟩
theorem below1 {w w1 : World} {a : Obj} (h : Below (w.alloc a).heap.size (w.alloc a) w1) : Below w.heap.size w w1 := ((Below.refl _ _).alloc (Nat.le_refl _) _).trans (h.mono (by simp))
theorem below2 {w w1 : World} {a b : Obj} (h : Below ((w.alloc a).alloc b).heap.size ((w.alloc a).alloc b) w1) : Below w.heap.size w w1 := below1 (below1 h)
theorem below3 {w w1 : World} {a b c : Obj} (h : Below (((w.alloc a).alloc b).alloc c).heap.size (((w.alloc a).alloc b).alloc c) w1) : Below w.heap.size w w1 := below2 (below1 h)
theorem below_set2 {B : Nat} {w w1 : World} {p q : Addr} (h : Below B w w1) (hp : B ≤ p.block) (hq : B ≤ q.block) (x y : Value) : Below B w ((w1.setCell p x).setCell q y) := (h.setCell hp _).setCell hq _
theorem new1 {w : World} {a : Obj} : Below w.heap.size w (w.alloc a) := below1 (Below.refl _ _)
theorem new3 {w : World} {a b c : Obj} : Below w.heap.size w (((w.alloc a).alloc b).alloc c) := below3 (Below.refl _ _)
theorem below_drew {w w1 : World} (h : Below w.drew.heap.size w.drew w1) : Below w.heap.size w w1 := ⟨h.os, h.tape, h.output, h.size, h.block⟩
/-- From a world that a call began in to one behind a further call. -/
theorem below_on {w w1 w2 : World} (h : Below w.heap.size w w1) (g : Below w1.heap.size w1 w2) : Below w.heap.size w w2 := h.trans (g.mono h.size)
def partB (n : Int) : Bool := decide (-1048576 ≤ n) && decide (n ≤ 1048576)
def okB (a b : Int) : Bool := partB a && partB b
theorem partB_iff {n : Int} : partB n = true ↔ -1048576 ≤ n ∧ n ≤ 1048576 := by simp [partB]
theorem okB_iff {a b : Int} : okB a b = true ↔ (-1048576 ≤ a ∧ a ≤ 1048576) ∧ -1048576 ≤ b ∧ b ≤ 1048576 := by simp [okB, partB]
def gX (g : Bool) (x : Int) : Int := if g then x else 0

theorem natAbs_le {a b : Int} (h : -1048576 ≤ a ∧ a ≤ 1048576) (g : -1048576 ≤ b ∧ b ≤ 1048576) : (a * b).natAbs ≤ 1099511627776 := by
  rw [Int.natAbs_mul, show (1099511627776 : Nat) = 1048576 * 1048576 from rfl]
  exact Nat.mul_le_mul (by omega) (by omega)
/-- The product, as the closure works it out. -/
theorem cmul_facts {a b c d : Int} (h : okB a b = true) (g : okB c d = true) : ∃ re im, cMulBits (floatOfInt .f64 a) (floatOfInt .f64 b) (floatOfInt .f64 c) (floatOfInt .f64 d) = some (re, im) ∧
    floatToIntVal .f64 re .i64 = some (a * c - b * d) ∧ floatToIntVal .f64 im .i64 = some (a * d + b * c) := by
  obtain ⟨ha, hb⟩ := okB_iff.1 h
  obtain ⟨hc, hd⟩ := okB_iff.1 g
  have e1 := natAbs_le ha hc
  have e2 := natAbs_le hb hd
  have e3 := natAbs_le ha hd
  have e4 := natAbs_le hb hc
  obtain ⟨re, im, e, f1, f2⟩ := FR.cmul (FR.of a (by omega)) (FR.of b (by omega)) (FR.of c (by omega)) (FR.of d (by omega)) (by omega) (by omega) (by omega) (by omega)
  exact ⟨re, im, e, FR.int f1 (by omega) (by omega), FR.int f2 (by omega) (by omega)⟩
end Go.Proofs.YthmfjdafmnmgiaaDoor
