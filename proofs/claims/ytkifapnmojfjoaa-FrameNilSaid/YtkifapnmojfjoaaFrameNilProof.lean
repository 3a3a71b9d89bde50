/-
  'capstan/capstanlaw16.FrameNil' (FrameNil): for every input, whatever memory holds, the call returns true, and each argument reads behind it as it read before.
  The row's frame is laid after the kit's own shells; the walk is proved in the imported texts.
-/
import Derived.Test.YtkifapnmojfjoaaRows
import Derived.WalkKit
import Derived.ProofKit
import Derived.OpenShut
import Derived.ChangeOld
import Derived.Below
import Derived.Lib.SmallJoins
import Derived.Test.YtkifapnmojfjoaaUarg
import Derived.Test.YtkifapnmojfjoaaUw
namespace Go.Proofs.Ytkifapnmojfjoaa.frameNil
open Go Go.ChangeShapes Go.WideShapes Go.ChangeAt Go.RowKit Go.Joins
set_option linter.unusedVariables false
set_option linter.unusedSimpArgs false

theorem own : ownKnob Try.prog.godebug = none := by kernel_rfl
theorem laidOut : laidOutB Try.prog = true := by kernel_rfl

theorem walk (Y0 : A16) (w : World) (h0 : Ok16 Y0) :
    Calls Try.prog 4 #[.agg (ac16 Y0.k Y0.i Y0.n Y0.v.1 Y0.v.2.1 Y0.v.2.2)] w fun e w' => e = .returned (.bool true) ∧ Below w.heap.size w w' :=
  nil16_walk Y0.k Y0.i Y0.n Y0.v.1 Y0.v.2.1 Y0.v.2.2 w

set_option maxRecDepth 100000 in
theorem lifted (os : Os) (started : os.Started) (H : Type) (enc : TypeId × Value → H) :
    ReturnsInHanded {} Try.checked os 4 .any (Rows.frameNilSpec.pre6 enc Try.prog Try.f4 Rows.frameNilRow.domain false) (Rows.frameNilSpec.post enc Try.prog Try.f4 false true false false) := by
  refine returnsInHanded_of_change (C := Try.checked) own started (by kernel_rfl) Try.func4
    (ChangeSpec.witness6 (enc := enc) (C := Try.checked) false ⟨#[], #[.agg #[.int .u8 0, .int .i64 0, .int .i64 0, .int .u8 0, .int .i64 0, .int .i64 0]], []⟩ 8 (by kernel_rfl) (by kernel_rfl) (by kernel_rfl) (by kernel_rfl)) ?_
  intro W base args ds gs before hval0 hW hcnd _
  have hval : ∀ (j : Nat) t v, Try.f4.params[j]? = some t → args[j]? = some v → Value.okWide Try.prog W .any base t v := hval0
  have hW' := hW
  obtain ⟨p, q, hA0, hV, rfl, hfz, hnd⟩ := hW
  have hA : DataW.TrodAll enc Try.prog W 0 (fun _ => true) true Try.f4.params.toList args.toList ds p := hA0
  rw [Try.params4] at hA hval
  obtain ⟨v0, vs0, d0, ds0, p0, q0, hargs, rfl, rfl, t0, r0⟩ := trodAll_cons hA
  obtain ⟨rfl, rfl, rfl⟩ := trodAll_nil r0
  obtain rfl : args = #[v0] := by cases args; simp_all
  obtain ⟨rfl, rfl⟩ := trodVars_none hV
  obtain ⟨cs0, rfl, -⟩ := okWide_struct Try.underlying36 (hval 0 36 v0 rfl rfl)
  have k0 := t0
  have lt0 : ∀ x ∈ p0, x.block < W.heap.size := by obtain ⟨m, hm⟩ := k0; exact DataW.trod_lt m _ _ _ hm
  obtain ⟨Y0, e0, h0⟩ := row_act16 t0
  have e0 := Value.agg.inj e0
  subst e0
  clear hA0 hval0
  simp only [List.append_nil] at hW'
  refine (walk Y0 W h0).mono fun e W' ⟨he, bel⟩ => ?_
  subst he
  exact ⟨_, rfl, _, _, _, [], _, [], hW', trodAll_mk1 (shut_bool Try.underlying4 _), (trodAll_cons_mk (Below.trod laidOut (by kernel_rfl) (of_decide_eq_true (by kernel_rfl)) k0 bel lt0) trodAll_mk0), rfl, bel.frame _, fun h => by cases h⟩

/-! What the row's closure asks, part by part: all at once is too much for the kernel in a great seat. -/
theorem clA : (Rows.frameNilRow.inPlace == (Try.pinned.checked.prog).inPlace 4) = true := by kernel_rfl
theorem clB : (Rows.frameNilRow.unfollowed == (Try.pinned.checked.prog).unfollowed 4) = true := by kernel_rfl
theorem clC : (Rows.frameNilRow.recurses == (Try.pinned.checked.prog).recurses 4) = true := by kernel_rfl
theorem clD : (Rows.frameNilRow.named == (Try.pinned.checked.prog).varsNamed 4) = true := by kernel_rfl
theorem closed : joinedFacts Try.pinned.checked.prog 4 Try.f4 Rows.frameNilSpec Rows.frameNilRow = true := by
  unfold joinedFacts
  rw [clA, clB, clC, clD]
  kernel_rfl
theorem over : Rows.frameNilRow.holds Try.pinned (OpenSpec.ofChange Rows.frameNilSpec) :=
  OpenClaim.holds_of_wide 4 Try.f4 rfl rfl rfl rfl rfl rfl rfl ⟨rfl, rfl, rfl, rfl, rfl⟩ rfl rfl rfl rfl rfl (by kernel_rfl) Try.func4 closed
    (of_decide_eq_true (by kernel_rfl)) (by unfold Func.isWrapper; first | (rw [if_pos (by decide +kernel)]; kernel_rfl) | (rw [if_neg (by decide +kernel)]; exact ⟨rfl, rfl⟩))
    (fun os started H enc _ => lifted os started H enc)

theorem proved : Rows.FrameNilSaid := over
end Go.Proofs.Ytkifapnmojfjoaa.frameNil
namespace Go.Proofs.Ytkifapnmojfjoaa
theorem frameNil_proved : Rows.FrameNilSaid := frameNil.proved
#print axioms frameNil_proved
end Go.Proofs.Ytkifapnmojfjoaa
