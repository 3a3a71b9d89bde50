/-
  What the listed table of widths gives a walk: its six cells; and that the program's own start lays it so.
-/
import Derived.Test.YteimpkjpoijhmaaDoorLimb
import Derived.Test.YteimpkjpoijhmaaDoorLd
import Derived.ProofKit
import Derived.LaidMore
import Derived.OpenShut
import Derived.Stop.Joined
import Derived.Lib.SmallJoins
namespace Go.Proofs.YteimpkjpoijhmaaDoor
open Go.ChangeShapes Go.WideShapes Go.ChangeAt Go.RowKit

theorem tWidths : (Tryd.prog.globals[0]?).map (·.type) = some 122 := by kernel_rfl
/-- A row of integers, out of its reading. -/
theorem arr_ints {H : Type} {enc : TypeId × Value → H} {P : Program} {w : World} {base : Nat} {sp : Nat → Bool} {held : Bool} {fuel : Nat} {t e : TypeId} {k : IntKind} {n : Nat} {cs : List Value} {ds : List (DataW H)} {p : List MemPlace}
    (ht : P.underlying t = some (.array n e)) (he : P.underlying e = some (.int k)) (hE : P.cellsOf e = 1) (h : DataW.trod enc P w base sp held fuel t cs = some (.agg ds, p)) (i : Nat) (hi : i < n) (z : Int) (hz : ds[i]? = some (.lit (.int k z))) : cs[i]? = some (.int k z) := by
  obtain ⟨xs, m, rfl, hx, _, hn, hel⟩ := DataW.trod_array ht h
  simp only [Prod.mk.injEq, DataW.agg.injEq] at hx
  obtain ⟨rfl, _⟩ := hx
  have h1 := hel i hi
  rw [hE, Nat.mul_one] at h1
  rw [List.getElem?_map] at hz
  cases hxi : xs[i]? with
  | none => rw [hxi] at hz; cases hz
  | some x =>
    rw [hxi] at hz h1
    simp only [Option.map_some, Option.some.injEq] at hz
    obtain ⟨q, e1, e2, _⟩ := DataW.trod_int he h1
    rw [e2] at hz
    simp only [DataW.lit.injEq, Lit.int.injEq, true_and] at hz
    subst hz
    have := congrArg (fun l : List Value => l[0]?) e1
    simpa using this
/-- A row of rows, one of its rows. -/
theorem arr_at {H : Type} {enc : TypeId × Value → H} {P : Program} {w : World} {base : Nat} {sp : Nat → Bool} {held : Bool} {fuel : Nat} {t e : TypeId} {n c : Nat} {cs : List Value} {ds : List (DataW H)} {p : List MemPlace}
    (ht : P.underlying t = some (.array n e)) (hE : P.cellsOf e = c) (h : DataW.trod enc P w base sp held fuel t cs = some (.agg ds, p)) (i : Nat) (hi : i < n) (d : DataW H) (hz : ds[i]? = some d) :
    ∃ m q, DataW.trod enc P w base sp held m e ((cs.drop (i * c)).take c) = some (d, q) := by
  obtain ⟨xs, m, rfl, hx, _, hn, hel⟩ := DataW.trod_array ht h
  simp only [Prod.mk.injEq, DataW.agg.injEq] at hx
  obtain ⟨rfl, _⟩ := hx
  have h1 := hel i hi
  rw [hE] at h1
  rw [List.getElem?_map] at hz
  cases hxi : xs[i]? with
  | none => rw [hxi] at hz; cases hz
  | some x =>
    rw [hxi] at hz h1
    simp only [Option.map_some, Option.some.injEq] at hz
    exact ⟨m, x.2, by rw [h1, ← hz]⟩

/-- The table of widths, out of a row's list, where it stands at place k. -/
theorem of_GW (laid : List (String × DataW Unit)) (k : Nat) (hpl : (laid.all fun x => x.2.handleName?.isNone) = true) (hk : (laid[k]?).map (·.2) = some (.agg [.agg [.lit (.int .i64 0), .lit (.int .i64 0)], .agg [.lit (.int .i64 8), .lit (.int .i64 0)], .agg [.lit (.int .i64 3), .lit (.int .i64 3)]])) (hn : ((laid[k]?).bind fun x => Tryd.prog.globalNamed x.1) = some 0) {W : World}
    (h : laidMetH Tryd.prog laid W) : GW W := by
  rw [MakeChecks.laidMetH_plain _ _ _ hpl] at h
  obtain ⟨ps, hl, _, _⟩ := h
  cases hx : laid[k]? with
  | none => rw [hx] at hk; cases hk
  | some x =>
    obtain ⟨n, d⟩ := x
    rw [hx] at hk hn
    simp only [Option.map_some, Option.some.injEq] at hk
    simp only [Option.bind_some] at hn
    subst hk
    obtain ⟨g0, t0, cs0, f0, p0, hg0, ht0, hv0, hd0⟩ := laid_limb hl k n _ hx
    obtain rfl := Option.some.inj (hn.symm.trans hg0)
    obtain rfl := Option.some.inj (tWidths.symm.trans ht0)
    have u1 := Tryd.underlying122
    have u2 := Tryd.underlying121
    have u3 := Tryd.underlying3
    have c2 : Tryd.prog.cellsOf 121 = 2 := by kernel_rfl
    have c3 : Tryd.prog.cellsOf 3 = 1 := by kernel_rfl
    have hcell : ∀ i v, cs0.toList[i]? = some v → W.cell? ⟨0, i, none⟩ = some v := fun i v hi => by
      have := World.var?_cell hg0 hv0 i
      rw [this]
      simpa using hi
    have row : ∀ i j z, i < 3 → j < 2 → (∃ d1 d2, ([.agg [.lit (.int .i64 0), .lit (.int .i64 0)], .agg [.lit (.int .i64 8), .lit (.int .i64 0)], .agg [.lit (.int .i64 3), .lit (.int .i64 3)]] : List (DataW Unit))[i]? = some (.agg [d1, d2]) ∧ [d1, d2][j]? = some (.lit (.int .i64 z))) → cs0.toList[i * 2 + j]? = some (.int .i64 z) := by
      rintro i j z hi hj ⟨d1, d2, h1, h2⟩
      obtain ⟨m, q, hm⟩ := arr_at u1 c2 hd0 i hi _ h1
      have := arr_ints u2 u3 c3 hm j hj z h2
      rw [List.getElem?_take, if_pos hj, List.getElem?_drop] at this
      exact this
    exact ⟨hcell 0 _ (row 0 0 0 (by decide) (by decide) ⟨_, _, rfl, rfl⟩), hcell 1 _ (row 0 1 0 (by decide) (by decide) ⟨_, _, rfl, rfl⟩), hcell 2 _ (row 1 0 8 (by decide) (by decide) ⟨_, _, rfl, rfl⟩),
      hcell 3 _ (row 1 1 0 (by decide) (by decide) ⟨_, _, rfl, rfl⟩), hcell 4 _ (row 2 0 3 (by decide) (by decide) ⟨_, _, rfl, rfl⟩), hcell 5 _ (row 2 1 3 (by decide) (by decide) ⟨_, _, rfl, rfl⟩)⟩
end Go.Proofs.YteimpkjpoijhmaaDoor
