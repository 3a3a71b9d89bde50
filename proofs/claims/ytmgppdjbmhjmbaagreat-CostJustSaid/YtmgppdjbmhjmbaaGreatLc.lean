/-
  Flt, Gauss, Comb, Gref: in one text.
-/
import Derived.Laws.ComplexArith
import Derived.Test.YtmgppdjbmhjmbaaGreatChecked
import Derived.WalkKit
import Derived.Below
import Derived.Handy
import Derived.Lib.Hide
import Derived.Deep.QuietTactic
import Derived.BigQuiet
import Derived.Deep.DeepCutAuto
import Derived.Deep.RegionHeld3
import Derived.WalkSpells
import Derived.WalkLawsBesides
import Derived.Deep.RegionWith
namespace Go.Proofs.YtmgppdjbmhjmbaaGreat
open Ieee

end Go.Proofs.YtmgppdjbmhjmbaaGreat
namespace Go.Proofs.YtmgppdjbmhjmbaaGreat
open Go.RowKit

theorem bcell {W w1 : World} (hb : Below W.heap.size W w1) : (∀ b o, b < W.heap.size → w1.cell? ⟨b, o, none⟩ = W.cell? ⟨b, o, none⟩) ∧ (∀ b o, b < W.heap.size → w1.frozen? ⟨b, o, none⟩ = W.frozen? ⟨b, o, none⟩) :=
  ⟨fun b o h => hb.cell (p := ⟨b, o, none⟩) h, fun b o h => hb.frozen (p := ⟨b, o, none⟩) h⟩
theorem below1 {w w1 : World} {a : Obj} (h : Below (w.alloc a).heap.size (w.alloc a) w1) : Below w.heap.size w w1 := ((Below.refl _ _).alloc (Nat.le_refl _) _).trans (h.mono (by simp))
theorem below2 {w w1 : World} {a b : Obj} (h : Below ((w.alloc a).alloc b).heap.size ((w.alloc a).alloc b) w1) : Below w.heap.size w w1 := below1 (below1 h)
theorem below_set2 {B : Nat} {w w1 : World} {p q : Addr} (h : Below B w w1) (hp : B ≤ p.block) (hq : B ≤ q.block) (x y : Value) : Below B w ((w1.setCell p x).setCell q y) := (h.setCell hp _).setCell hq _
theorem new1 {w : World} {a : Obj} : Below w.heap.size w (w.alloc a) := below1 (Below.refl _ _)
/-- From a world that a call began in to one behind a further call. -/
theorem below_on {w w1 w2 : World} (h : Below w.heap.size w w1) (g : Below w1.heap.size w1 w2) : Below w.heap.size w w2 := h.trans (g.mono h.size)
def partB (n : Int) : Bool := decide (-1048576 ≤ n) && decide (n ≤ 1048576)
def okB (a b : Int) : Bool := partB a && partB b
end Go.Proofs.YtmgppdjbmhjmbaaGreat
namespace Go.Proofs.YtmgppdjbmhjmbaaGreat
open Go.RowKit

theorem new2 {w : World} {a b : Obj} : Below w.heap.size w ((w.alloc a).alloc b) := below2 (Below.refl _ _)

end Go.Proofs.YtmgppdjbmhjmbaaGreat
namespace Go.Proofs.YtmgppdjbmhjmbaaGreat
open Go.RowKit

end Go.Proofs.YtmgppdjbmhjmbaaGreat
