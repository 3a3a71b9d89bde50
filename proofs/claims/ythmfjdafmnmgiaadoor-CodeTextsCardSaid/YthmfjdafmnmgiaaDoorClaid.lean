/-
  What the listed variables of Go's library give a walk: the table of powers.
-/
import Derived.Test.YthmfjdafmnmgiaaDoorLimb
import Derived.Test.YthmfjdafmnmgiaaDoorCst
import Derived.Lib.LaidTab
import Derived.Stop.LaidErr
namespace Go.Proofs.YthmfjdafmnmgiaaDoor
open Go.ChangeShapes Go.WideShapes Go.ChangeAt Go.RowKit
set_option maxRecDepth 100000

theorem tPow : (Tryd.prog.globals[4]?).map (·.type) = some 123 := by kernel_rfl
/-- The table, out of a row's list, where it stands at place k. -/
theorem of_T10 (laid : List (String × DataW Unit)) (k : Nat) (hpl : (laid.all fun x => x.2.handleName?.isNone) = true) (hk : (laid[k]?).map (·.2) = some (Lib.tabData .u64 Lib.pow10Tab)) (hn : ((laid[k]?).bind fun x => Tryd.prog.globalNamed x.1) = some 4) {W : World}
    (h : laidMetH Tryd.prog laid W) : T10 W := by
  rw [MakeChecks.laidMetH_plain _ _ _ hpl] at h
  obtain ⟨ps, hl, _, _⟩ := h
  cases hx : laid[k]? with
  | none => rw [hx] at hk; cases hk
  | some x =>
    obtain ⟨n, d⟩ := x
    rw [hx] at hk hn
    simp only [Option.map_some, Option.some.injEq] at hk
    simp only [Option.bind_some] at hn
    subst hk
    obtain ⟨g0, t0, cs0, f0, p0, hg0, ht0, hv0, hd0⟩ := laid_limb hl k n _ hx
    obtain rfl := Option.some.inj (hn.symm.trans hg0)
    obtain rfl := Option.some.inj (tPow.symm.trans ht0)
    have c1 : Tryd.prog.cellsOf 109 = 1 := by kernel_rfl
    have c2 : Tryd.prog.cellsOf 123 = 20 := by kernel_rfl
    have hc := Lib.cells_of_tab Tryd.underlying123 Tryd.underlying109 c1 c2 hd0
    intro nm hnm
    unfold World.var? at hv0 ⊢
    rw [hn] at hv0
    rw [hnm]
    rw [hv0, ← hc]
/-- A listed sentinel is an interface value. -/
def isIf : DataW Unit → Bool
  | .iface _ _ => true
  | _ => false
theorem iface_cell (laid : List (String × DataW Unit)) (k g : Nat) (t : TypeId) (ms : Array (String × TypeId)) (ht : (Tryd.prog.globals[g]?).map (·.type) = some t) (hi : Tryd.prog.underlying t = some (.interface ms)) (hpl : (laid.all fun x => x.2.handleName?.isNone) = true) (hk : ((laid[k]?).map fun x => isIf x.2) = some true) (hn : ((laid[k]?).bind fun x => Tryd.prog.globalNamed x.1) = some g) {W : World}
    (h : laidMetH Tryd.prog laid W) : ∃ v, W.cell? ⟨g, 0, none⟩ = some v ∧ IfV v := by
  rw [MakeChecks.laidMetH_plain _ _ _ hpl] at h
  obtain ⟨ps, hl, _, _⟩ := h
  cases hx : laid[k]? with
  | none => rw [hx] at hk; cases hk
  | some x =>
    obtain ⟨n, d⟩ := x
    rw [hx] at hk hn
    simp only [Option.map_some, Option.some.injEq] at hk
    simp only [Option.bind_some] at hn
    cases d with
    | iface nm d =>
      obtain ⟨g0, t0, cs0, f0, p0, hg0, ht0, hv0, hd0⟩ := laid_limb hl k n _ hx
      obtain rfl := Option.some.inj (hn.symm.trans hg0)
      obtain rfl := Option.some.inj (ht.symm.trans ht0)
      obtain ⟨f1, u, v, hcs, _, _⟩ := iface_of_trod hi hd0
      refine ⟨.iface u v, ?_, .inr ⟨u, v, rfl⟩⟩
      rw [World.var?_cell hg0 hv0 0]
      obtain ⟨l0⟩ := cs0
      simp only at hcs
      subst hcs
      rfl
    | _ => simp [isIf] at hk
def ES (w : World) : Prop := ∃ v, w.cell? ⟨2, 0, none⟩ = some v ∧ IfV v
def ER (w : World) : Prop := ∃ v, w.cell? ⟨3, 0, none⟩ = some v ∧ IfV v
theorem of_ES (laid : List (String × DataW Unit)) (k : Nat) (hpl : (laid.all fun x => x.2.handleName?.isNone) = true) (hk : ((laid[k]?).map fun x => isIf x.2) = some true) (hn : ((laid[k]?).bind fun x => Tryd.prog.globalNamed x.1) = some 2) {W : World} (h : laidMetH Tryd.prog laid W) : ES W :=
  iface_cell laid k _ 55 _ (by kernel_rfl) Tryd.underlying55 hpl hk hn h
theorem of_ER (laid : List (String × DataW Unit)) (k : Nat) (hpl : (laid.all fun x => x.2.handleName?.isNone) = true) (hk : ((laid[k]?).map fun x => isIf x.2) = some true) (hn : ((laid[k]?).bind fun x => Tryd.prog.globalNamed x.1) = some 3) {W : World} (h : laidMetH Tryd.prog laid W) : ER W :=
  iface_cell laid k _ 55 _ (by kernel_rfl) Tryd.underlying55 hpl hk hn h
theorem inok_of {k a b : Int} (x : (Lit.int .u8 k).wf = true) (y : (Lit.int .i64 a).wf = true) (z : (Lit.int .i64 b).wf = true) : InOk (k, a, b) := by
  have h1 := bounds_u8 x
  exact ⟨⟨h1.1, show k < 256 by omega⟩, bounds_i64 y, bounds_i64 z⟩
end Go.Proofs.YthmfjdafmnmgiaaDoor
