/-
  What the listed table of names gives a walk: its cells; and that the program's own start lays it so.
-/
import Derived.Test.YtdkhpjdhbkkfiaaDoorRows
import Derived.Test.YtdkhpjdhbkkfiaaDoorOpn
import Derived.ProofKit
import Derived.LaidMore
import Derived.OpenShut
import Derived.Stop.Joined
import Derived.Lib.SmallJoins
namespace Go.Proofs.YtdkhpjdhbkkfiaaDoor
open Go.ChangeShapes Go.WideShapes Go.ChangeAt Go.RowKit

/-- The list of the rows' cell 'laid'. -/
def laidW : List (String × DataW Unit) := Rows.opTellsRow.laid
/-- The name of its one variable. -/
def nameW : String := (laidW.map (·.1)).headD default
theorem gNames : Tryd.prog.globalNamed nameW = some 0 := by kernel_rfl
theorem tNames : (Tryd.prog.globals[0]?).map (·.type) = some 40 := by kernel_rfl
theorem laidH : laidOutB Tryd.prog = true := by kernel_rfl
/-- A row of texts, out of its reading. -/
theorem arr_strings {H : Type} {enc : TypeId × Value → H} {P : Program} {w : World} {base : Nat} {sp : Nat → Bool} {held : Bool} {fuel : Nat} {t e : TypeId} {n : Nat} {cs : List Value} {ds : List (DataW H)} {p : List MemPlace}
    (ht : P.underlying t = some (.array n e)) (he : P.underlying e = some .string) (hE : P.cellsOf e = 1) (h : DataW.trod enc P w base sp held fuel t cs = some (.agg ds, p)) (i : Nat) (hi : i < n) (L : List UInt8) (hz : ds[i]? = some (.lit (.string L))) : cs[i]? = some (.string ⟨L.toArray⟩) := by
  obtain ⟨xs, m, rfl, hx, _, hn, hel⟩ := DataW.trod_array ht h
  simp only [Prod.mk.injEq, DataW.agg.injEq] at hx
  obtain ⟨rfl, _⟩ := hx
  have h1 := hel i hi
  rw [hE, Nat.mul_one] at h1
  rw [List.getElem?_map] at hz
  cases hxi : xs[i]? with
  | none => rw [hxi] at hz; cases hz
  | some x =>
    rw [hxi] at hz h1
    simp only [Option.map_some, Option.some.injEq] at hz
    obtain ⟨s, e1, e2, _⟩ := DataW.trod_string he h1
    have e3 := congrArg (·.1) e2
    rw [hz] at e3
    simp only [DataW.lit.injEq, Lit.string.injEq] at e3
    have e4 := congrArg (fun l : List Value => l[0]?) e1
    have e5 : cs[i]? = some (.string s) := by simpa using e4
    rw [e5, e3]

theorem of_laid {W : World} (h : laidMetH Tryd.prog laidW W) : GN W := by
  rw [MakeChecks.laidMetH_plain _ _ _ (by kernel_rfl)] at h
  obtain ⟨ps, ⟨g0, t0, cs0, f0, p0, q0, hg0, ht0, hv0, hd0, _⟩, _, _⟩ := h
  obtain rfl := Option.some.inj (gNames.symm.trans hg0)
  obtain rfl := Option.some.inj (tNames.symm.trans ht0)
  have c3 : Tryd.prog.cellsOf 9 = 1 := by kernel_rfl
  intro i L hi
  have hlt : i < 33 := (List.getElem?_eq_some_iff.1 hi).1
  have hq : (opNm.map fun L => (DataW.lit (.string L) : DataW Unit))[i]? = some (.lit (.string L)) := by rw [List.getElem?_map, hi]; rfl
  have h1 := arr_strings Tryd.underlying40 Tryd.underlying9 c3 hd0 i hlt L hq
  have h2 := World.var?_cell hg0 hv0 i
  rw [h2]
  simpa using h1
/-- The program's own start lays it so. -/
theorem door_met (os : Os) (args : Array Value) : laidMetH Tryd.prog laidW ((World.doorLaid Tryd.prog 400 os).forCall (fun _ _ => 0) ⟨#[], args, []⟩).memory := by
  rw [MakeChecks.laidMetH_plain _ _ _ (by kernel_rfl)]
  exact laidMet_of_run' 8 (by kernel_rfl) (by kernel_rfl)
end Go.Proofs.YtdkhpjdhbkkfiaaDoor
