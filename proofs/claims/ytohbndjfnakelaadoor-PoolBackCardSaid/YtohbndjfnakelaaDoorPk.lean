/-
  What package pool's functions are to answer, each as a proposition over a fact F that memory keeps: the laws of layer 6 take these; the program's own are proved apart.
-/
import Derived.Test.YtohbndjfnakelaaDoorPr
import Derived.Test.YtohbndjfnakelaaDoorPd
namespace Go.Proofs.YtohbndjfnakelaaDoor
open Go.RowKit

def KPMay (F : Fct) : Prop := ∀ (A : Option Addr) (c m : Nat) (L : List Vlu) (w : World), F.p w → Rv w A c L → L.length = m → m ≤ 2000 → Calls Tryd.prog 10 #[.slice A m c] w fun e w' => e = .returned (.bool (poM L)) ∧ Below w.heap.size w w'
def KPFind (F : Fct) : Prop := ∀ (A : Option Addr) (c m : Nat) (L : List Vlu) (k a b : Int) (w : World), F.p w → Rv w A c L → L.length = m → m ≤ 2000 → VlOk (k, a, b) → Calls Tryd.prog 12 #[.slice A m c, .agg #[.int .u8 k, .int .i64 a, .int .i64 b]] w fun e w' => e = .returned (.int .i64 (fdI L (k, a, b))) ∧ Below w.heap.size w w'
def KPBytes (F : Fct) : Prop := ∀ (A : Option Addr) (c m : Nat) (L : List Vlu) (w : World), F.p w → Rv w A c L → L.length = m → m ≤ 2000 → Calls Tryd.prog 14 #[.slice A m c] w fun e w' => ∃ A' c', e = .returned (.tuple #[.slice A' (poL L).length c', .int .i64 (poE L)]) ∧
  w'.ownsRow w.heap.size 5 1 (.slice A' (poL L).length c') (poL L).length (cel (poL L)) ∧ Below w.heap.size w w'
def KPRead (F : Fct) : Prop := ∀ (A : Option Addr) (c n : Nat) (l : List Int) (p : Int) (w : World), F.p w → Rd w A c l → l.length = n → Calls Tryd.prog 17 #[.slice A n c, .int .i64 p] w fun e w' => ∃ A' c', e = .returned (.tuple #[.slice A' (rdP l p).1.length c', .int .i64 (rdP l p).2.1, .int .i64 (rdP l p).2.2]) ∧
  Rv w' A' c' (rdP l p).1 ∧ Below w.heap.size w w'
def KPAdd (F : Fct) : Prop := ∀ (A : Option Addr) (c m : Nat) (L : List Vlu) (k a b : Int) (w : World), F.p w → Rv w A c L → L.length = m → m ≤ 2000 → VlOk (k, a, b) → Calls Tryd.prog 15 #[.slice A m c, .agg #[.int .u8 k, .int .i64 a, .int .i64 b]] w fun e w' =>
  ∃ A' c', e = .returned (.tuple #[.slice A' (adP L (k, a, b)).1.length c', .int .i64 (adP L (k, a, b)).2.1, .int .i64 (adP L (k, a, b)).2.2]) ∧ w'.ownsRow w.heap.size 24 3 (.slice A' (adP L (k, a, b)).1.length c') (adP L (k, a, b)).1.length (cev (adP L (k, a, b)).1) ∧ Below w.heap.size w w'
end Go.Proofs.YtohbndjfnakelaaDoor
