/-
  'capstan/capstanlaw02.GaussRing' (GaussRing): for every input, whatever memory holds, the call returns true, and each argument reads behind it as it read before.
  The row's frame is laid after the kit's own shell for integers; the walk is proved in the imported texts.
-/
import Derived.Test.YtpeggkhbdkbjmaaRows
import Derived.WalkKit
import Derived.ProofKit
import Derived.OpenShut
import Derived.ChangeOld
import Derived.Below
import Derived.Test.YtpeggkhbdkbjmaaArr
import Derived.Test.YtpeggkhbdkbjmaaGring
namespace Go.Proofs.Ytpeggkhbdkbjmaa.gaussRing
open Go.ChangeShapes Go.WideShapes Go.ChangeAt Go.RowKit
set_option linter.unusedVariables false

theorem own : ownKnob Try.prog.godebug = none := by kernel_rfl
theorem cells_pair : Try.prog.cellsOf 23 = 2 := by kernel_rfl
theorem cells_int : Try.prog.cellsOf 2 = 1 := by kernel_rfl

theorem walk (a0 b0 : Int) (a1 b1 : Int) (a2 b2 : Int) (u0 : (Lit.int .i64 a0).wf = true) (v0 : (Lit.int .i64 b0).wf = true) (u1 : (Lit.int .i64 a1).wf = true) (v1 : (Lit.int .i64 b1).wf = true) (u2 : (Lit.int .i64 a2).wf = true) (v2 : (Lit.int .i64 b2).wf = true) (w : World) :
    Calls Try.prog 4 #[Value.agg #[.int .i64 a0, .int .i64 b0], Value.agg #[.int .i64 a1, .int .i64 b1], Value.agg #[.int .i64 a2, .int .i64 b2]] w fun e w' => e = .returned (.bool true) ∧ Below w.heap.size w w' :=
  ring_walk a0 b0 a1 b1 a2 b2 w

set_option maxRecDepth 100000 in
theorem lifted (os : Os) (started : os.Started) (H : Type) (enc : TypeId × Value → H) :
    ReturnsInHanded {} Try.checked os 4 .any (Rows.gaussRingSpec.pre6 enc Try.prog Try.f4 Rows.gaussRingRow.domain false) (Rows.gaussRingSpec.post enc Try.prog Try.f4 false true false false) := by
  refine returnsInHanded_of_change (C := Try.checked) own started (by kernel_rfl) Try.func4
    (ChangeSpec.witness6 (enc := enc) (C := Try.checked) false ⟨#[], #[.agg #[.int .i64 0, .int .i64 0], .agg #[.int .i64 0, .int .i64 0], .agg #[.int .i64 0, .int .i64 0]], []⟩ 4 (by kernel_rfl) (by kernel_rfl) (by kernel_rfl) (by kernel_rfl)) ?_
  intro W base args ds gs before hval0 hW hcnd _
  have hval : ∀ (j : Nat) t v, Try.f4.params[j]? = some t → args[j]? = some v → Value.okWide Try.prog W .any base t v := hval0
  have hW' := hW
  obtain ⟨p, q, hA0, hV, rfl, hfz, hnd⟩ := hW
  have hA : DataW.TrodAll enc Try.prog W 0 (fun _ => true) true Try.f4.params.toList args.toList ds p := hA0
  rw [Try.params4] at hA hval
  obtain ⟨x0, xs0, d0, ds0, p0, q0, hargs, rfl, rfl, h0, r0⟩ := trodAll_cons hA
  obtain ⟨x1, xs1, d1, ds1, p1, q1, rfl, rfl, rfl, h1, r1⟩ := trodAll_cons r0
  obtain ⟨x2, xs2, d2, ds2, p2, q2, rfl, rfl, rfl, h2, r2⟩ := trodAll_cons r1
  obtain ⟨rfl, rfl, rfl⟩ := trodAll_nil r2
  obtain rfl : args = #[x0, x1, x2] := by cases args; simp_all
  obtain ⟨rfl, rfl⟩ := trodVars_none hV
  obtain ⟨a0, b0, rfl, rfl, rfl, u0, v0⟩ := open_pair Try.underlying23 Try.underlying2 cells_pair cells_int (hval 0 23 x0 rfl rfl) h0
  obtain ⟨a1, b1, rfl, rfl, rfl, u1, v1⟩ := open_pair Try.underlying23 Try.underlying2 cells_pair cells_int (hval 1 23 x1 rfl rfl) h1
  obtain ⟨a2, b2, rfl, rfl, rfl, u2, v2⟩ := open_pair Try.underlying23 Try.underlying2 cells_pair cells_int (hval 2 23 x2 rfl rfl) h2
  clear hA0 hval0
  simp only [List.append_nil] at hW'
  refine (walk a0 b0 a1 b1 a2 b2 u0 v0 u1 v1 u2 v2 W).mono fun e W' ⟨he, hg⟩ => ?_
  subst he
  exact ⟨_, rfl, _, _, _, [], _, [], hW', trodAll_mk1 (shut_bool Try.underlying4 _), (trodAll_cons_mk (shut_pair Try.underlying23 Try.underlying2 cells_pair cells_int u0 v0) (trodAll_cons_mk (shut_pair Try.underlying23 Try.underlying2 cells_pair cells_int u1 v1) (trodAll_cons_mk (shut_pair Try.underlying23 Try.underlying2 cells_pair cells_int u2 v2) trodAll_mk0))), rfl, hg.frame _, fun h => by cases h⟩

theorem over : Rows.gaussRingRow.holds Try.pinned (OpenSpec.ofChange Rows.gaussRingSpec) :=
  OpenClaim.holds_of_wide 4 Try.f4 rfl rfl rfl rfl rfl rfl rfl ⟨rfl, rfl, rfl, rfl, rfl⟩ rfl rfl rfl rfl rfl (by kernel_rfl) Try.func4 (by kernel_rfl)
    (of_decide_eq_true (by kernel_rfl)) (by unfold Func.isWrapper; first | (rw [if_pos (by decide +kernel)]; kernel_rfl) | (rw [if_neg (by decide +kernel)]; exact ⟨rfl, rfl⟩))
    (fun os started H enc _ => lifted os started H enc)

theorem proved : Rows.GaussRingSaid :=
  over
end Go.Proofs.Ytpeggkhbdkbjmaa.gaussRing
namespace Go.Proofs.Ytpeggkhbdkbjmaa
theorem gaussRing_proved : Rows.GaussRingSaid := gaussRing.proved
#print axioms gaussRing_proved
end Go.Proofs.Ytpeggkhbdkbjmaa
