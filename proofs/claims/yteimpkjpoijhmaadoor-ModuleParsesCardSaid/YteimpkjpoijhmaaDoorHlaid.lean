/-
  What the listed fields of package method give a walk: the cells of each; and so all of them together.
-/
import Derived.Test.YteimpkjpoijhmaaDoorLimb
import Derived.Test.YteimpkjpoijhmaaDoorHo
import Derived.ProofKit
import Derived.LaidMore
import Derived.OpenShut
import Derived.Stop.Joined
import Derived.Lib.SmallJoins
namespace Go.Proofs.YteimpkjpoijhmaaDoor
open Go.ChangeShapes Go.WideShapes Go.ChangeAt Go.RowKit
set_option maxRecDepth 100000

theorem fldF : ((Tryd.prog.fieldsOf 95).map fun f => (f.offset, f.type)) = #[(0, 3), (1, 3), (2, 3)] := by kernel_rfl
theorem fldF_at {j : Nat} {o t : Nat} (h : (#[(0, 3), (1, 3), (2, 3)] : Array (Nat × TypeId))[j]? = some (o, t)) : ∃ f, (Tryd.prog.fieldsOf 95)[j]? = some f ∧ f.offset = o ∧ f.type = t := by
  rw [← fldF, Array.getElem?_map, Option.map_eq_some_iff] at h
  obtain ⟨f, h1, h2⟩ := h
  simp only [Prod.mk.injEq] at h2
  exact ⟨f, h1, h2.1, h2.2⟩
/-- A field's cells, out of its reading. -/
theorem one_fld {H : Type} {enc : TypeId × Value → H} {w : World} {base : Nat} {sp : Nat → Bool} {held : Bool} {fuel : Nat} {cs : List Value} {ds : List (DataW H)} {p : List MemPlace} (h : DataW.trod enc Tryd.prog w base sp held fuel 95 cs = some (.agg ds, p)) {x y z : Int} (hd : ds = [.lit (.int .i64 x), .lit (.int .i64 y), .lit (.int .i64 z)]) :
    cs = [.int .i64 x, .int .i64 y, .int .i64 z] := by
  have hS : Tryd.prog.underlying 95 = some (.struct (Tryd.prog.fieldsOf 95)) := by kernel_rfl
  have hC : Tryd.prog.cellsOf 95 = 3 := by kernel_rfl
  have c1 : Tryd.prog.cellsOf 3 = 1 := by kernel_rfl
  obtain ⟨xs, n, _, he, hlen, hxs, hg⟩ := DataW.trod_struct hS h
  rw [hC] at hlen
  simp only [Prod.mk.injEq, DataW.agg.injEq] at he
  match cs, hlen with
  | [v0, v1, v2], _ =>
    have hn : xs.length = 3 := by rw [hxs]; kernel_rfl
    match xs, hn with
    | [a, b, c], _ =>
      obtain ⟨f0, a0, o0, t0⟩ := fldF_at (j := 0) rfl
      obtain ⟨f1, a1, o1, t1⟩ := fldF_at (j := 1) rfl
      obtain ⟨f2, a2, o2, t2⟩ := fldF_at (j := 2) rfl
      have g0 := hg 0 f0 a0
      have g1 := hg 1 f1 a1
      have g2 := hg 2 f2 a2
      rw [o0, t0, c1] at g0
      rw [o1, t1, c1] at g1
      rw [o2, t2, c1] at g2
      obtain ⟨k, e0, r0, _⟩ := DataW.trod_int Tryd.underlying3 g0
      obtain ⟨m, e1, r1, _⟩ := DataW.trod_int Tryd.underlying3 g1
      obtain ⟨q, e2, r2, _⟩ := DataW.trod_int Tryd.underlying3 g2
      simp at e0 e1 e2
      subst e0 e1 e2
      have h1 := he.1
      rw [hd] at h1
      simp [r0, r1, r2] at h1
      obtain ⟨rfl, rfl, rfl⟩ := h1
      rfl
/-- One of the fields, out of a row's list, where it stands at place k. -/
theorem of_T3 (laid : List (String × DataW Unit)) (k : Nat) (g : Nat) (x y z : Int) (hpl : (laid.all fun x => x.2.handleName?.isNone) = true) (hk : (laid[k]?).map (·.2) = some (.agg [.lit (.int .i64 x), .lit (.int .i64 y), .lit (.int .i64 z)])) (hn : ((laid[k]?).bind fun x => Tryd.prog.globalNamed x.1) = some g)
    (ht : (Tryd.prog.globals[g]?).map (·.type) = some 95) {W : World} (h : laidMetH Tryd.prog laid W) : T3 W g x y z := by
  rw [MakeChecks.laidMetH_plain _ _ _ hpl] at h
  obtain ⟨ps, hl, _, _⟩ := h
  cases hx : laid[k]? with
  | none => rw [hx] at hk; cases hk
  | some v =>
    obtain ⟨n, d⟩ := v
    rw [hx] at hk hn
    simp only [Option.map_some, Option.some.injEq] at hk
    simp only [Option.bind_some] at hn
    subst hk
    obtain ⟨g0, t0, cs0, f0, p0, hg0, ht0, hv0, hd0⟩ := laid_limb hl k n _ hx
    obtain rfl := Option.some.inj (hn.symm.trans hg0)
    obtain rfl := Option.some.inj (ht.symm.trans ht0)
    have hcs := one_fld hd0 rfl
    have hcell : ∀ i v, cs0.toList[i]? = some v → W.cell? ⟨g, i, none⟩ = some v := fun i v hi => by
      have := World.var?_cell hg0 hv0 i
      rw [this]
      simpa using hi
    have c0 := hcell 0 _ (by rw [hcs]; rfl)
    exact ⟨cell_lt c0, c0, hcell 1 _ (by rw [hcs]; rfl), hcell 2 _ (by rw [hcs]; rfl)⟩
end Go.Proofs.YteimpkjpoijhmaaDoor
