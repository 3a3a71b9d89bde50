/-
  What the listed table of names gives a walk: its cells; and that the program's own start lays it so.
-/
import Derived.Test.YthmfjdafmnmgiaaDoorLimb
import Derived.Test.YthmfjdafmnmgiaaDoorOpn
import Derived.ProofKit
import Derived.LaidMore
import Derived.OpenShut
import Derived.Stop.Joined
import Derived.Lib.SmallJoins
namespace Go.Proofs.YthmfjdafmnmgiaaDoor
open Go.ChangeShapes Go.WideShapes Go.ChangeAt Go.RowKit

theorem tNames : (Tryd.prog.globals[0]?).map (·.type) = some 89 := by kernel_rfl
/-- A row of texts, out of its reading. -/
theorem arr_strings {H : Type} {enc : TypeId × Value → H} {P : Program} {w : World} {base : Nat} {sp : Nat → Bool} {held : Bool} {fuel : Nat} {t e : TypeId} {n : Nat} {cs : List Value} {ds : List (DataW H)} {p : List MemPlace}
    (ht : P.underlying t = some (.array n e)) (he : P.underlying e = some .string) (hE : P.cellsOf e = 1) (h : DataW.trod enc P w base sp held fuel t cs = some (.agg ds, p)) (i : Nat) (hi : i < n) (L : List UInt8) (hz : ds[i]? = some (.lit (.string L))) : cs[i]? = some (.string ⟨L.toArray⟩) := by
  obtain ⟨xs, m, rfl, hx, _, hn, hel⟩ := DataW.trod_array ht h
  simp only [Prod.mk.injEq, DataW.agg.injEq] at hx
  obtain ⟨rfl, _⟩ := hx
  have h1 := hel i hi
  rw [hE, Nat.mul_one] at h1
  rw [List.getElem?_map] at hz
  cases hxi : xs[i]? with
  | none => rw [hxi] at hz; cases hz
  | some x =>
    rw [hxi] at hz h1
    simp only [Option.map_some, Option.some.injEq] at hz
    obtain ⟨s, e1, e2, _⟩ := DataW.trod_string he h1
    have e3 := congrArg (·.1) e2
    rw [hz] at e3
    simp only [DataW.lit.injEq, Lit.string.injEq] at e3
    have e4 := congrArg (fun l : List Value => l[0]?) e1
    have e5 : cs[i]? = some (.string s) := by simpa using e4
    rw [e5, e3]

/-- The names, out of a row's list, where the table stands at place k. -/
theorem of_GN (laid : List (String × DataW Unit)) (k : Nat) (hpl : (laid.all fun x => x.2.handleName?.isNone) = true) (hk : (laid[k]?).map (·.2) = some (.agg (opNm.map fun L => .lit (.string L)))) (hn : ((laid[k]?).bind fun x => Tryd.prog.globalNamed x.1) = some 0) {W : World}
    (h : laidMetH Tryd.prog laid W) : GN W := by
  rw [MakeChecks.laidMetH_plain _ _ _ hpl] at h
  obtain ⟨ps, hl, _, _⟩ := h
  cases hx : laid[k]? with
  | none => rw [hx] at hk; cases hk
  | some x =>
    obtain ⟨n, d⟩ := x
    rw [hx] at hk hn
    simp only [Option.map_some, Option.some.injEq] at hk
    simp only [Option.bind_some] at hn
    subst hk
    obtain ⟨g0, t0, cs0, f0, p0, hg0, ht0, hv0, hd0⟩ := laid_limb hl k n _ hx
    obtain rfl := Option.some.inj (hn.symm.trans hg0)
    obtain rfl := Option.some.inj (tNames.symm.trans ht0)
    have c3 : Tryd.prog.cellsOf 9 = 1 := by kernel_rfl
    intro i L hi
    have hlt : i < 33 := (List.getElem?_eq_some_iff.1 hi).1
    have hq : (opNm.map fun L => (DataW.lit (.string L) : DataW Unit))[i]? = some (.lit (.string L)) := by rw [List.getElem?_map, hi]; rfl
    have h1 := arr_strings Tryd.underlying89 Tryd.underlying9 c3 hd0 i hlt L hq
    have h2 := World.var?_cell hg0 hv0 i
    rw [h2]
    simpa using h1
end Go.Proofs.YthmfjdafmnmgiaaDoor
