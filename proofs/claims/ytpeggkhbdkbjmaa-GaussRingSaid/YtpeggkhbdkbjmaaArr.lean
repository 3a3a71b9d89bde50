/-
  A pair of integers by value (an array of two) as an argument: opened, and shut again. No function of the program is named here.
-/
import Derived.OpenShut
import Derived.WideKeyArr2
import Derived.ChangeSame
namespace Go.Proofs.Ytpeggkhbdkbjmaa
open Go.ChangeShapes Go.WideShapes

section
variable {H : Type} {enc : TypeId × Value → H} {P : Program} {W : World} {base : Nat} {sp : Nat → Bool} {held : Bool}
theorem open_pair {r : Reach} {b0 : Nat} {t e : TypeId} {q : IntKind} {v : Value} {d : DataW H} {ps : List MemPlace} (hu : P.underlying t = some (.array 2 e)) (he : P.underlying e = some (.int q)) (hC : P.cellsOf t = 2) (hE : P.cellsOf e = 1)
    (hv : Value.okWide P W r b0 t v) (hd : DataW.Trod enc P W base sp held t v d ps) :
    ∃ a b : Int, v = .agg #[.int q a, .int q b] ∧ d = .agg [.lit (.int q a), .lit (.int q b)] ∧ ps = [] ∧ (Lit.int q a).wf = true ∧ (Lit.int q b).wf = true := by
  simp only [Value.okWide, hu] at hv
  obtain ⟨cs, rfl, h2, _⟩ := hv
  obtain ⟨l⟩ := cs
  rw [hC] at h2
  match l, h2 with
  | [c0, c1], _ =>
    obtain ⟨fuel, hf⟩ := hd
    cases fuel with
    | zero => simp [DataW.trod] at hf
    | succ m =>
      rw [DataW.trod_step] at hf
      unfold DataW.trodStep at hf
      simp only [hu, Value.cells] at hf
      rw [if_pos (by rw [hC]; rfl)] at hf
      simp only [Option.map_eq_some_iff] at hf
      obtain ⟨ys, hy, e1⟩ := hf
      simp [List.range_succ, hE] at hy
      cases g0 : DataW.trod enc P W base sp held m e [c0] with
      | none => simp [g0] at hy
      | some y0 =>
        cases g1 : DataW.trod enc P W base sp held m e [c1] with
        | none => simp [g0, g1] at hy
        | some y1 =>
          simp [g0, g1] at hy
          subst hy
          obtain ⟨a, ea, rfl, wa⟩ := DataW.trod_int he g0
          obtain ⟨b, eb, rfl, wb⟩ := DataW.trod_int he g1
          simp at ea eb e1
          obtain ⟨rfl, rfl⟩ := e1
          subst ea eb
          exact ⟨a, b, rfl, rfl, rfl, wa, wb⟩
theorem shut_pair {t e : TypeId} {q : IntKind} {a b : Int} (hu : P.underlying t = some (.array 2 e)) (he : P.underlying e = some (.int q)) (hC : P.cellsOf t = 2) (hE : P.cellsOf e = 1) (ha : (Lit.int q a).wf = true) (hb : (Lit.int q b).wf = true) :
    DataW.Trod enc P W base sp held t (.agg #[.int q a, .int q b]) (.agg [.lit (.int q a), .lit (.int q b)]) [] := by
  refine ⟨3, ?_⟩
  rw [DataW.trod_step]
  unfold DataW.trodStep
  simp only [hu, Value.cells]
  rw [if_pos (by rw [hC]; rfl)]
  simp [List.range_succ, hE, DataW.trod, he, ha, hb]
end
end Go.Proofs.Ytpeggkhbdkbjmaa
