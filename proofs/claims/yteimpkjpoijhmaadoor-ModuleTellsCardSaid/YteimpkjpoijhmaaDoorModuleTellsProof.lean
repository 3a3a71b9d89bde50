/-
  'capstan/capstanlaw08.ModuleTells' (ModuleTells): for every input, whatever memory holds, the call returns true, and each argument reads behind it as it read before (the card: what the listed package-level variables hold is tied to the text of the program).
  The row's frame is laid after the kit's own shells; the walk is proved in the imported texts.
-/
import Derived.Test.YteimpkjpoijhmaaDoorRows
import Derived.Test.YteimpkjpoijhmaaDoorCards
import Derived.Test.YteimpkjpoijhmaaDoorTie
import Derived.SevenTiedAt
import Derived.LaidMore
import Derived.Stop.Joined
import Derived.WalkKit
import Derived.ProofKit
import Derived.OpenShut
import Derived.ChangeOld
import Derived.Below
import Derived.Lib.SmallJoins
import Derived.Test.YteimpkjpoijhmaaDoorLaid
import Derived.Test.YteimpkjpoijhmaaDoorHlaid
import Derived.Test.YteimpkjpoijhmaaDoorMarg
import Derived.Test.YteimpkjpoijhmaaDoorMf
import Derived.Test.YteimpkjpoijhmaaDoorMv
import Derived.Test.YteimpkjpoijhmaaDoorMz
import Derived.Test.YteimpkjpoijhmaaDoorLo
namespace Go.Proofs.YteimpkjpoijhmaaDoor.moduleTells
open Go Go.ChangeShapes Go.WideShapes Go.ChangeAt Go.RowKit Go.Joins
set_option linter.unusedVariables false
set_option linter.unusedSimpArgs false

theorem own : ownKnob Tryd.prog.godebug = none := by kernel_rfl
theorem laidOut : laidOutB Tryd.prog = true := by kernel_rfl
/-- The program's own start lays the listed variables so. -/
theorem door (os : Os) (args : Array Value) : laidMetH Tryd.prog Rows.moduleTellsRow.laid ((World.doorLaid Tryd.prog 400 os).forCall (fun _ _ => 0) ⟨#[], args, []⟩).memory := by
  rw [MakeChecks.laidMetH_plain _ _ _ (by kernel_rfl)]
  exact laidMet_of_run' 8 (by kernel_rfl) (by kernel_rfl)

theorem walk (Y0 : Ma) (D0 : Md) (Y1 : Ma) (D1 : Md) (w : World) (h0 : Hq w Y0 D0) (h1 : Hq w Y1 D1) (hw : GW w) (hw2 : GM w) :
    Calls Tryd.prog 3 #[dv Y0 D0, dv Y1 D1] w fun e w' => e = .returned (.bool true) ∧ Below w.heap.size w w' :=
  m8tells_walk fWM r8copy kmbytes kmmay kmsame Y0 Y1 D0 D1 w ⟨hw, hw2⟩ h0 h1

set_option maxRecDepth 100000 in
theorem lifted (os : Os) (started : os.Started) (H : Type) (enc : TypeId × Value → H) :
    ReturnsInHanded {} Tryd.checked os 3 .any (fun w args => (Rows.moduleTellsSpec.pre enc Tryd.prog Tryd.f3 [] false w args ∧ laidMetH Tryd.prog Rows.moduleTellsRow.laid w) ∧ sizedMet enc Tryd.prog Tryd.f3 (OpenSpec.ofChange Rows.moduleTellsSpec) false w args)
      (Rows.moduleTellsSpec.post enc Tryd.prog Tryd.f3 false true false false) := by
  refine returnsInHanded_of_change_and (C := Tryd.checked) (X := fun w _ => laidMetH Tryd.prog Rows.moduleTellsRow.laid w) (fun _ _ _ hh h => h.of_heap hh) own started (by kernel_rfl) Tryd.func3
    (ChangeSpec.witness_shaped (enc := enc) (C := Tryd.checked) (os := os) (X := fun w _ => laidMetH Tryd.prog Rows.moduleTellsRow.laid w) false (World.doorLaid Tryd.prog 400 os) #[.agg #[.slice none 0 0, .slice none 0 0, .slice none 0 0, .int .i64 0], .agg #[.slice none 0 0, .slice none 0 0, .slice none 0 0, .int .i64 0]] 8 rfl (World.shaped_of_RefB (by kernel_rfl) (by kernel_rfl)) (by kernel_rfl) (by kernel_rfl) (by kernel_rfl) (door os _)) ?_
  intro W base args ds gs before hval0 hW hcnd _ hL _
  have hval : ∀ (j : Nat) t v, Tryd.f3.params[j]? = some t → args[j]? = some v → Value.okWide Tryd.prog W .any base t v := hval0
  have hW' := hW
  obtain ⟨p, q, hA0, hV, rfl, hfz, hnd⟩ := hW
  have hA : DataW.TrodAll enc Tryd.prog W 0 (fun _ => true) true Tryd.f3.params.toList args.toList ds p := hA0
  rw [Tryd.params3] at hA hval
  obtain ⟨v0, vs0, d0, ds0, p0, q0, hargs, rfl, rfl, t0, r0⟩ := trodAll_cons hA
  obtain ⟨v1, vs1, d1, ds1, p1, q1, rfl, rfl, rfl, t1, r1⟩ := trodAll_cons r0
  obtain ⟨rfl, rfl, rfl⟩ := trodAll_nil r1
  obtain rfl : args = #[v0, v1] := by cases args; simp_all
  obtain ⟨rfl, rfl⟩ := trodVars_none hV
  obtain ⟨cs0, rfl, -⟩ := okWide_struct Tryd.underlying25 (hval 0 25 v0 rfl rfl)
  have k0 := t0
  have lt0 : ∀ x ∈ p0, x.block < W.heap.size := by obtain ⟨m, hm⟩ := k0; exact DataW.trod_lt m _ _ _ hm
  obtain ⟨Y0, D0, e0, h0⟩ := row_mod t0
  have e0 := Value.agg.inj e0
  subst e0
  obtain ⟨cs1, rfl, -⟩ := okWide_struct Tryd.underlying25 (hval 1 25 v1 rfl rfl)
  have k1 := t1
  have lt1 : ∀ x ∈ p1, x.block < W.heap.size := by obtain ⟨m, hm⟩ := k1; exact DataW.trod_lt m _ _ _ hm
  obtain ⟨Y1, D1, e1, h1⟩ := row_mod t1
  have e1 := Value.agg.inj e1
  subst e1
  clear hA0 hval0
  simp only [List.append_nil] at hW'
  refine (walk Y0 D0 Y1 D1 W h0 h1 (of_GW Rows.moduleTellsRow.laid 0 (by kernel_rfl) (by kernel_rfl) (by kernel_rfl) hL) ⟨of_T3 Rows.moduleTellsRow.laid 1 1 1 1 3 (by kernel_rfl) (by kernel_rfl) (by kernel_rfl) (by kernel_rfl) hL, of_T3 Rows.moduleTellsRow.laid 2 2 1 1 2 (by kernel_rfl) (by kernel_rfl) (by kernel_rfl) (by kernel_rfl) hL, of_T3 Rows.moduleTellsRow.laid 3 3 1 0 1 (by kernel_rfl) (by kernel_rfl) (by kernel_rfl) (by kernel_rfl) hL, of_T3 Rows.moduleTellsRow.laid 4 4 3 0 1048576 (by kernel_rfl) (by kernel_rfl) (by kernel_rfl) (by kernel_rfl) hL, of_T3 Rows.moduleTellsRow.laid 5 5 2 0 256 (by kernel_rfl) (by kernel_rfl) (by kernel_rfl) (by kernel_rfl) hL, of_T3 Rows.moduleTellsRow.laid 6 6 2 0 1024 (by kernel_rfl) (by kernel_rfl) (by kernel_rfl) (by kernel_rfl) hL⟩).mono fun e W' ⟨he, bel⟩ => ?_
  subst he
  exact ⟨_, rfl, _, _, _, [], _, [], hW', trodAll_mk1 (shut_bool Tryd.underlying4 _), (trodAll_cons_mk (Below.trod laidOut (by kernel_rfl) (of_decide_eq_true (by kernel_rfl)) k0 bel lt0) (trodAll_cons_mk (Below.trod laidOut (by kernel_rfl) (of_decide_eq_true (by kernel_rfl)) k1 bel lt1) trodAll_mk0)), rfl, bel.frame _, fun h => by cases h⟩

theorem over : Rows.moduleTellsRow.holds Tryd.pinned (OpenSpec.ofChange Rows.moduleTellsSpec) :=
  OpenClaim.holds_of_wide 3 Tryd.f3 rfl rfl rfl rfl rfl rfl rfl ⟨rfl, rfl, rfl, rfl, rfl⟩ rfl rfl rfl rfl rfl (by kernel_rfl) Tryd.func3 (by kernel_rfl)
    (of_decide_eq_true (by kernel_rfl)) (by unfold Func.isWrapper; first | (rw [if_pos (by decide +kernel)]; kernel_rfl) | (rw [if_neg (by decide +kernel)]; exact ⟨rfl, rfl⟩))
    (fun os started H enc _ => lifted os started H enc)

theorem proved : Rows.ModuleTellsCardSaid :=
  Claim7.holds_tied_plain_at .later [] [.data, .data, .data, .data, .data, .data, .data] true Rows.moduleTellsCard.stood.harness true
    over (fun _ h => by cases h) (by kernel_rfl) (fun _ h => by cases h) moduleTells_row_tie rfl ⟨rfl, rfl⟩ (by kernel_rfl) rfl
    (fun f fn hf hfn => by
      obtain rfl : f = 3 := Option.some.inj ((show Tryd.prog.funcNamed Rows.moduleTellsRow.func = some 3 by kernel_rfl).symm.trans hf) |>.symm
      obtain rfl : fn = Tryd.f3 := (Option.some.inj (Tryd.func3.symm.trans hfn)).symm
      exact ⟨by kernel_rfl, fun j t ht => by
        rw [Tryd.params3] at ht
        have hm : t ∈ [25, 25] := by simpa using Array.mem_of_getElem? ht
        have hall : ([25, 25].all fun u => !Tryd.prog.wantsStandIn u) = true := by kernel_rfl
        exact (show Tryd.prog.wantsStandIn t = false by simpa using List.all_eq_true.1 hall t hm)⟩)
    (by kernel_rfl)
end Go.Proofs.YteimpkjpoijhmaaDoor.moduleTells
namespace Go.Proofs.YteimpkjpoijhmaaDoor
theorem moduleTells_proved : Rows.ModuleTellsCardSaid := moduleTells.proved
#print axioms moduleTells_proved
end Go.Proofs.YteimpkjpoijhmaaDoor
