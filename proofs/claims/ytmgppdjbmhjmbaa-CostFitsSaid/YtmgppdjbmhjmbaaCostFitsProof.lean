/-
  'capstan/capstanlaw12.CostFits' (CostFits): for every input, whatever memory holds, the call returns true, and each argument reads behind it as it read before.
  The row's frame is laid after the kit's own shells; the walk is proved in the imported texts.
-/
import Derived.Test.YtmgppdjbmhjmbaaRows
import Derived.WalkKit
import Derived.ProofKit
import Derived.OpenShut
import Derived.ChangeOld
import Derived.Below
import Derived.Lib.SmallJoins
import Derived.Test.YtmgppdjbmhjmbaaHarg
import Derived.Test.YtmgppdjbmhjmbaaJf
namespace Go.Proofs.Ytmgppdjbmhjmbaa.costFits
open Go Go.ChangeShapes Go.WideShapes Go.ChangeAt Go.RowKit Go.Joins
set_option linter.unusedVariables false
set_option linter.unusedSimpArgs false

theorem own : ownKnob Try.prog.godebug = none := by kernel_rfl
theorem laidOut : laidOutB Try.prog = true := by kernel_rfl
theorem cellsQ : Try.prog.cellsOf 23 = 3 := by kernel_rfl
theorem int_fuel {H : Type} {enc : TypeId × Value → H} {P : Program} {w : World} {base : Nat} {sp : Nat → Bool} {held : Bool} {t : TypeId} {k : IntKind} {n : Int} (hu : P.underlying t = some (.int k)) (hw : (Lit.int k n).wf = true) :
    ∃ m, DataW.trod enc P w base sp held m t [.int k n] = some (.lit (.int k n), []) := ⟨1, by simp [DataW.trod, hu, hw]⟩

theorem walk (k0 a0 b0 : Int) (x1 : Mc) (m1 : Mh) (w : World) (x0 : (Lit.int .i64 k0).wf = true) (y0 : (Lit.int .i64 a0).wf = true) (z0 : (Lit.int .i64 b0).wf = true) (h1 : Hd w x1 m1) :
    Calls Try.prog 3 #[.agg #[.int .i64 k0, .int .i64 a0, .int .i64 b0], mv x1 m1] w fun e w' => e = .returned (.bool true) ∧ Below w.heap.size w w' :=
  fits12_walk k0 a0 b0 x1 m1 w h1

set_option maxRecDepth 100000 in
theorem lifted (os : Os) (started : os.Started) (H : Type) (enc : TypeId × Value → H) :
    ReturnsInHanded {} Try.checked os 3 .any (Rows.costFitsSpec.pre6 enc Try.prog Try.f3 Rows.costFitsRow.domain false) (Rows.costFitsSpec.post enc Try.prog Try.f3 false true false false) := by
  refine returnsInHanded_of_change (C := Try.checked) own started (by kernel_rfl) Try.func3
    (ChangeSpec.witness6 (enc := enc) (C := Try.checked) false ⟨#[], #[.agg #[.int .i64 0, .int .i64 0, .int .i64 0], .agg #[.slice none 0 0, .slice none 0 0, .int .u8 0, .bool false, .int .i64 0, .int .i64 0, .int .i64 0, .slice none 0 0]], []⟩ 8 (by kernel_rfl) (by kernel_rfl) (by kernel_rfl) (by kernel_rfl)) ?_
  intro W base args ds gs before hval0 hW hcnd _
  have hval : ∀ (j : Nat) t v, Try.f3.params[j]? = some t → args[j]? = some v → Value.okWide Try.prog W .any base t v := hval0
  have hW' := hW
  obtain ⟨p, q, hA0, hV, rfl, hfz, hnd⟩ := hW
  have hA : DataW.TrodAll enc Try.prog W 0 (fun _ => true) true Try.f3.params.toList args.toList ds p := hA0
  rw [Try.params3] at hA hval
  obtain ⟨v0, vs0, d0, ds0, p0, q0, hargs, rfl, rfl, t0, r0⟩ := trodAll_cons hA
  obtain ⟨v1, vs1, d1, ds1, p1, q1, rfl, rfl, rfl, t1, r1⟩ := trodAll_cons r0
  obtain ⟨rfl, rfl, rfl⟩ := trodAll_nil r1
  obtain rfl : args = #[v0, v1] := by cases args; simp_all
  obtain ⟨rfl, rfl⟩ := trodVars_none hV
  obtain ⟨ck0, ca0, cb0, yk0, ya0, yb0, m0, rfl, rfl, rfl, gk0, ga0, gb0⟩ := open_agg3 Try.underlying23 (by kernel_rfl) cellsQ (hval 0 23 v0 rfl rfl) t0
  obtain ⟨k0, ek0, rfl, x0⟩ := DataW.trod_int Try.underlying3 gk0
  obtain ⟨a0, ea0, rfl, y0⟩ := DataW.trod_int Try.underlying3 ga0
  obtain ⟨b0, eb0, rfl, z0⟩ := DataW.trod_int Try.underlying3 gb0
  simp at ek0 ea0 eb0
  subst ek0 ea0 eb0
  obtain ⟨cs1, rfl, -⟩ := okWide_struct Try.underlying27 (hval 1 27 v1 rfl rfl)
  have k1 := t1
  have lt1 : ∀ x ∈ p1, x.block < W.heap.size := by obtain ⟨m, hm⟩ := k1; exact DataW.trod_lt m _ _ _ hm
  obtain ⟨x1, m1, e1, h1⟩ := row_met t1
  have e1 := Value.agg.inj e1
  subst e1
  clear hA0 hval0
  simp only [List.append_nil] at hW'
  refine (walk k0 a0 b0 x1 m1 W x0 y0 z0 h1).mono fun e W' ⟨he, bel⟩ => ?_
  subst he
  exact ⟨_, rfl, _, _, _, [], _, [], hW', trodAll_mk1 (shut_bool Try.underlying4 _), (trodAll_cons_mk (shut_agg3 (y0 := (.lit (.int .i64 k0), [])) (y1 := (.lit (.int .i64 a0), [])) (y2 := (.lit (.int .i64 b0), [])) Try.underlying23 (by kernel_rfl) cellsQ (int_fuel Try.underlying3 x0) (int_fuel Try.underlying3 y0) (int_fuel Try.underlying3 z0)) (trodAll_cons_mk (Below.trod laidOut (by kernel_rfl) (of_decide_eq_true (by kernel_rfl)) k1 bel lt1) trodAll_mk0)), rfl, bel.frame _, fun h => by cases h⟩

theorem over : Rows.costFitsRow.holds Try.pinned (OpenSpec.ofChange Rows.costFitsSpec) :=
  OpenClaim.holds_of_wide 3 Try.f3 rfl rfl rfl rfl rfl rfl rfl ⟨rfl, rfl, rfl, rfl, rfl⟩ rfl rfl rfl rfl rfl (by kernel_rfl) Try.func3 (by kernel_rfl)
    (of_decide_eq_true (by kernel_rfl)) (by unfold Func.isWrapper; first | (rw [if_pos (by decide +kernel)]; kernel_rfl) | (rw [if_neg (by decide +kernel)]; exact ⟨rfl, rfl⟩))
    (fun os started H enc _ => lifted os started H enc)

theorem proved : Rows.CostFitsSaid := over
end Go.Proofs.Ytmgppdjbmhjmbaa.costFits
namespace Go.Proofs.Ytmgppdjbmhjmbaa
theorem costFits_proved : Rows.CostFitsSaid := costFits.proved
#print axioms costFits_proved
end Go.Proofs.Ytmgppdjbmhjmbaa
