/-
  'capstan/capstanlaw06.PoolTells' (PoolTells): for every input, whatever memory holds, the call returns true, and each argument reads behind it as it read before (the card: what the listed package-level variables hold is tied to the text of the program).
  The row's frame is laid after the kit's own shells; the walk is proved in the imported texts.
-/
import Derived.Test.YtohbndjfnakelaaDoorRows
import Derived.Test.YtohbndjfnakelaaDoorCards
import Derived.Test.YtohbndjfnakelaaDoorTie
import Derived.SevenTiedAt
import Derived.LaidMore
import Derived.Stop.Joined
import Derived.WalkKit
import Derived.ProofKit
import Derived.OpenShut
import Derived.ChangeOld
import Derived.Below
import Derived.Lib.SmallJoins
import Derived.Test.YtohbndjfnakelaaDoorLaid
import Derived.Test.YtohbndjfnakelaaDoorPvArg
import Derived.Test.YtohbndjfnakelaaDoorPtells
import Derived.Test.YtohbndjfnakelaaDoorQb
import Derived.Test.YtohbndjfnakelaaDoorQd
namespace Go.Proofs.YtohbndjfnakelaaDoor.poolTells
open Go Go.ChangeShapes Go.WideShapes Go.ChangeAt Go.RowKit Go.Joins
set_option linter.unusedVariables false
set_option linter.unusedSimpArgs false

theorem own : ownKnob Tryd.prog.godebug = none := by kernel_rfl
theorem laidOut : laidOutB Tryd.prog = true := by kernel_rfl
/-- The program's own start lays the listed variables so. -/
theorem door (os : Os) (args : Array Value) : laidMetH Tryd.prog Rows.poolTellsRow.laid ((World.doorLaid Tryd.prog 400 os).forCall (fun _ _ => 0) ⟨#[], args, []⟩).memory := by
  rw [MakeChecks.laidMetH_plain _ _ _ (by kernel_rfl)]
  exact laidMet_of_run' 8 (by kernel_rfl) (by kernel_rfl)
theorem cellsV : Tryd.prog.cellsOf 24 = 3 := by kernel_rfl
theorem int_fuel {H : Type} {enc : TypeId × Value → H} {P : Program} {w : World} {base : Nat} {sp : Nat → Bool} {held : Bool} {t : TypeId} {k : IntKind} {n : Int} (hu : P.underlying t = some (.int k)) (hw : (Lit.int k n).wf = true) :
    ∃ m, DataW.trod enc P w base sp held m t [.int k n] = some (.lit (.int k n), []) := ⟨1, by simp [DataW.trod, hu, hw]⟩

theorem walk (A0 : Option Addr) (n0 c0 : Nat) (L0 : List Vlu) (k1 a1 b1 : Int) (w : World) (h0 : Rv w A0 c0 L0) (e0 : L0.length = n0) (x1 : (Lit.int .u8 k1).wf = true) (y1 : (Lit.int .i64 a1).wf = true) (z1 : (Lit.int .i64 b1).wf = true) (hw : GW w) :
    Calls Tryd.prog 3 #[.slice A0 n0 c0, .agg #[.int .u8 k1, .int .i64 a1, .int .i64 b1]] w fun e w' => e = .returned (.bool true) ∧ Below w.heap.size w w' :=
  ptells_walk fG (kpmay _) (kpfind _) kpbytes (kpadd _) A0 c0 n0 L0 k1 a1 b1 w hw h0 e0 (vlok_of x1 y1 z1)

set_option maxRecDepth 100000 in
theorem lifted (os : Os) (started : os.Started) (H : Type) (enc : TypeId × Value → H) :
    ReturnsInHanded {} Tryd.checked os 3 .any (fun w args => (Rows.poolTellsSpec.pre enc Tryd.prog Tryd.f3 [] false w args ∧ laidMetH Tryd.prog Rows.poolTellsRow.laid w) ∧ sizedMet enc Tryd.prog Tryd.f3 (OpenSpec.ofChange Rows.poolTellsSpec) false w args)
      (Rows.poolTellsSpec.post enc Tryd.prog Tryd.f3 false true false false) := by
  refine returnsInHanded_of_change_and (C := Tryd.checked) (X := fun w _ => laidMetH Tryd.prog Rows.poolTellsRow.laid w) (fun _ _ _ hh h => h.of_heap hh) own started (by kernel_rfl) Tryd.func3
    (ChangeSpec.witness_shaped (enc := enc) (C := Tryd.checked) (os := os) (X := fun w _ => laidMetH Tryd.prog Rows.poolTellsRow.laid w) false (World.doorLaid Tryd.prog 400 os) #[.slice none 0 0, .agg #[.int .u8 0, .int .i64 0, .int .i64 0]] 8 rfl (World.shaped_of_RefB (by kernel_rfl) (by kernel_rfl)) (by kernel_rfl) (by kernel_rfl) (by kernel_rfl) (door os _)) ?_
  intro W base args ds gs before hval0 hW hcnd _ hL _
  have hval : ∀ (j : Nat) t v, Tryd.f3.params[j]? = some t → args[j]? = some v → Value.okWide Tryd.prog W .any base t v := hval0
  have hW' := hW
  obtain ⟨p, q, hA0, hV, rfl, hfz, hnd⟩ := hW
  have hA : DataW.TrodAll enc Tryd.prog W 0 (fun _ => true) true Tryd.f3.params.toList args.toList ds p := hA0
  rw [Tryd.params3] at hA hval
  obtain ⟨v0, vs0, d0, ds0, p0, q0, hargs, rfl, rfl, t0, r0⟩ := trodAll_cons hA
  obtain ⟨v1, vs1, d1, ds1, p1, q1, rfl, rfl, rfl, t1, r1⟩ := trodAll_cons r0
  obtain ⟨rfl, rfl, rfl⟩ := trodAll_nil r1
  obtain rfl : args = #[v0, v1] := by cases args; simp_all
  obtain ⟨rfl, rfl⟩ := trodVars_none hV
  obtain ⟨A0, n0, c0, rfl⟩ := okWide_slice Tryd.underlying22 (hval 0 22 v0 rfl rfl)
  have k0 := t0
  have lt0 : ∀ x ∈ p0, x.block < W.heap.size := by obtain ⟨m, hm⟩ := k0; exact DataW.trod_lt m _ _ _ hm
  obtain ⟨L0, e0, h0⟩ := row_vlu t0
  obtain ⟨ck1, ca1, cb1, yk1, ya1, yb1, m1, rfl, rfl, rfl, gk1, ga1, gb1⟩ := open_agg3 Tryd.underlying24 (by kernel_rfl) cellsV (hval 1 24 v1 rfl rfl) t1
  obtain ⟨k1, ek1, rfl, x1⟩ := DataW.trod_int Tryd.underlying5 gk1
  obtain ⟨a1, ea1, rfl, y1⟩ := DataW.trod_int Tryd.underlying2 ga1
  obtain ⟨b1, eb1, rfl, z1⟩ := DataW.trod_int Tryd.underlying2 gb1
  simp at ek1 ea1 eb1
  subst ek1 ea1 eb1
  clear hA0 hval0
  simp only [List.append_nil] at hW'
  refine (walk A0 n0 c0 L0 k1 a1 b1 W h0 e0 x1 y1 z1 (of_GW Rows.poolTellsRow.laid 0 (by kernel_rfl) (by kernel_rfl) (by kernel_rfl) hL)).mono fun e W' ⟨he, bel⟩ => ?_
  subst he
  exact ⟨_, rfl, _, _, _, [], _, [], hW', trodAll_mk1 (shut_bool Tryd.underlying4 _), (trodAll_cons_mk (Below.trod laidOut (by kernel_rfl) (of_decide_eq_true (by kernel_rfl)) k0 bel lt0) (trodAll_cons_mk (shut_agg3 (y0 := (.lit (.int .u8 k1), [])) (y1 := (.lit (.int .i64 a1), [])) (y2 := (.lit (.int .i64 b1), [])) Tryd.underlying24 (by kernel_rfl) cellsV (int_fuel Tryd.underlying5 x1) (int_fuel Tryd.underlying2 y1) (int_fuel Tryd.underlying2 z1)) trodAll_mk0)), rfl, bel.frame _, fun h => by cases h⟩

theorem over : Rows.poolTellsRow.holds Tryd.pinned (OpenSpec.ofChange Rows.poolTellsSpec) :=
  OpenClaim.holds_of_wide 3 Tryd.f3 rfl rfl rfl rfl rfl rfl rfl ⟨rfl, rfl, rfl, rfl, rfl⟩ rfl rfl rfl rfl rfl (by kernel_rfl) Tryd.func3 (by kernel_rfl)
    (of_decide_eq_true (by kernel_rfl)) (by unfold Func.isWrapper; first | (rw [if_pos (by decide +kernel)]; kernel_rfl) | (rw [if_neg (by decide +kernel)]; exact ⟨rfl, rfl⟩))
    (fun os started H enc _ => lifted os started H enc)

theorem proved : Rows.PoolTellsCardSaid :=
  Claim7.holds_tied_plain_at .later [] [.data] true Rows.poolTellsCard.stood.harness false
    over (fun _ h => by cases h) (by kernel_rfl) (fun _ h => by cases h) poolTells_row_tie rfl ⟨rfl, rfl⟩ (by kernel_rfl) rfl
    (fun f fn hf hfn => by
      obtain rfl : f = 3 := Option.some.inj ((show Tryd.prog.funcNamed Rows.poolTellsRow.func = some 3 by kernel_rfl).symm.trans hf) |>.symm
      obtain rfl : fn = Tryd.f3 := (Option.some.inj (Tryd.func3.symm.trans hfn)).symm
      exact ⟨by kernel_rfl, fun j t ht => by
        rw [Tryd.params3] at ht
        have hm : t ∈ [22, 24] := by simpa using Array.mem_of_getElem? ht
        have hall : ([22, 24].all fun u => !Tryd.prog.wantsStandIn u) = true := by kernel_rfl
        exact (show Tryd.prog.wantsStandIn t = false by simpa using List.all_eq_true.1 hall t hm)⟩)
    (by kernel_rfl)
end Go.Proofs.YtohbndjfnakelaaDoor.poolTells
namespace Go.Proofs.YtohbndjfnakelaaDoor
theorem poolTells_proved : Rows.PoolTellsCardSaid := poolTells.proved
#print axioms poolTells_proved
end Go.Proofs.YtohbndjfnakelaaDoor
