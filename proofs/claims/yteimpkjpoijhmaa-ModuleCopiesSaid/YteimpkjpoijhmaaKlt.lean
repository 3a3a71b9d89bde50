/-
  A region that draws its order and stores: a load that a store waits for by way of another operation. No program is named here.
-/
import Derived.Test.YteimpkjpoijhmaaLq
namespace Go.Proofs.Yteimpkjpoijhmaa
open Go.RowKit
set_option linter.unusedVariables false

section
variable {P : Program} {ops : Array Oper} {Q : Exit → Act → World → Prop} {md : Region.Mode} {S : World → Prop} {brk : List Nat}
/-- Each breaker waits for i, or for what isn't done and waits for i. -/
def WaitsBy (md : Region.Mode) (ops : Array Oper) (brk : List Nat) (listed : Array Bool) (i : Nat) : Prop := ∀ j oj, ops[j]? = some oj → brk.contains j = true → ∃ e ∈ oj.after, Region.binds md e = true ∧ (e.on = i ∨ (listed.getD e.on true = false ∧ ∃ ok, ops[e.on]? = some ok ∧ ∃ e2 ∈ ok.after, Region.binds md e2 = true ∧ e2.on = i))
theorem wpL_load2 {i : Nat} {oi : Oper} {v : Value} (hi : ops[i]? = some oi) (hs : Region.noSelect ops = true) (hQ : ∀ c a w, Q (.panic c) (a.put oi.dst v) w → Q (.panic c) a w) (hb : brk.contains i = false) :
    ∀ (n : Nat) (listed : Array Bool) (a : Act) (w : World), WaitsBy md ops brk listed i →
      (∀ j oj, ops[j]? = some oj → j ≠ i → listed.getD j true = false → (∀ e ∈ oj.after, Region.binds md e = true → e.on ≠ i) → oi.apart ops oj = true) →
      i ∈ Region.ready md ops listed → YieldsIf P ops S oi v a → S w → broke brk listed = false →
      wpL P md ops Q S brk n (listed.setIfInBounds i true) (a.put oi.dst v) w → wpL P md ops Q S brk (n + 1) listed a w := by
  intro n
  induction n with
  | zero =>
    intro listed a w hw _ hr hy hS hB H
    refine ⟨fun h => (by rw [h] at hr; cases hr), fun j hj => ?_⟩
    by_cases hji : j = i
    · subst hji; exact hy.wpOp hi hS ⟨.inr hS, H⟩
    · have := ready_mono hj hji
      rw [H.1] at this
      cases this
  | succ n ih =>
    intro listed a w hw hfree hr hy hS hB H
    refine ⟨fun h => (by rw [h] at hr; cases hr), fun j hj => ?_⟩
    by_cases hji : j = i
    · subst hji; exact hy.wpOp hi hS ⟨.inr hS, H⟩
    · obtain ⟨hjun, oj, hoj, hall⟩ := mem_ready.1 hj
      have hun := (mem_ready.1 hr).1
      have hnot : ∀ k, listed.getD k true = false → ∀ e ∈ oj.after, Region.binds md e = true → e.on ≠ k := by
        intro k hk e he hbd heq
        have h1 := hall e he hbd
        rw [heq] at h1
        rcases Nat.lt_or_ge k listed.size with h' | h'
        · simp [h'] at hk h1; rw [hk] at h1; cases h1
        · simp [Array.getElem?_eq_none h'] at h1
      have hno := hnot i hun
      have hjb : brk.contains j = false := by
        cases hc : brk.contains j with
        | false => rfl
        | true =>
          obtain ⟨e, he, h1, h2⟩ := hw j oj hoj hc
          rcases h2 with h2 | ⟨h2, _⟩
          · exact absurd h2 (hno e he h1)
          · exact absurd rfl (hnot e.on h2 e he h1)
      have hw2 : WaitsBy md ops brk (listed.setIfInBounds j true) i := by
        intro j2 oj2 ho2 hb2
        obtain ⟨e, he, h1, h2⟩ := hw j2 oj2 ho2 hb2
        refine ⟨e, he, h1, ?_⟩
        rcases h2 with h2 | ⟨h2, ok, h3, e2, h4, h5, h6⟩
        · exact .inl h2
        · right
          have hne : j ≠ e.on := fun h => by
            subst h
            rw [hoj] at h3
            injection h3 with h3
            subst h3
            exact hno e2 h4 h5 h6
          exact ⟨by rw [getD_set_ne true hne]; exact h2, ok, h3, e2, h4, h5, h6⟩
      have hB2 : broke brk (listed.setIfInBounds j true) = false := by rw [broke_set hjb]; exact hB
      have hSk : ∀ u, (broke brk ((listed.setIfInBounds i true).setIfInBounds j true) = true ∨ S u) → S u := by
        intro u h
        rw [Array.setIfInBounds_comm _ _ (Ne.symm hji), broke_set hb, hB2] at h
        rcases h with h | h
        · cases h
        · exact h
      refine wpOp_mono (fun b u k => ⟨.inr (hSk u k.2.1), ih (listed.setIfInBounds j true) b u hw2 (fun t ot ht hti htn hto => hfree t ot ht hti ?_ hto) (ready_mono hr (Ne.symm hji)) k.1 (hSk u k.2.1) hB2 ?_⟩)
        (wpOp_putIf hoj (hfree j oj hoj hji hjun hno) (fun cs b => Region.noSelect_spec hs i oi cs b hi) (fun cs b => Region.noSelect_spec hs j oj cs b hoj) hQ hy (H.2 j (ready_mono hj hji)))
      · by_cases hjt : j = t
        · subst hjt; exact hjun
        · rw [getD_set_ne true hjt] at htn; exact htn
      · rw [Array.setIfInBounds_comm _ _ hji]
        exact k.2.2
def waits2 (md : Region.Mode) (ops : Array Oper) (brk : List Nat) (listed : Array Bool) (i : Nat) : Bool := (List.range ops.size).all fun j => !brk.contains j || ((ops[j]?).map fun o => o.after.any fun e => Region.binds md e && (e.on == i || (!(listed.getD e.on true) && ((ops[e.on]?).map fun ok => ok.after.any fun e2 => Region.binds md e2 && e2.on == i).getD false))).getD true
theorem waits2_spec {i : Nat} {listed : Array Bool} (h : waits2 md ops brk listed i = true) : WaitsBy md ops brk listed i := by
  intro j oj hj hb
  unfold waits2 at h
  rw [List.all_eq_true] at h
  have h1 := h j (List.mem_range.2 (Array.getElem?_eq_some_iff.1 hj).1)
  rw [hb, hj] at h1
  simp only [Bool.not_true, Bool.false_or, Option.map_some, Option.getD_some, Array.any_eq_true] at h1
  obtain ⟨q, hq, h2⟩ := h1
  rw [Bool.and_eq_true, Bool.or_eq_true, beq_iff_eq, Bool.and_eq_true] at h2
  obtain ⟨h2, h3⟩ := h2
  refine ⟨_, Array.getElem_mem hq, h2, ?_⟩
  rcases h3 with h3 | ⟨h3, h4⟩
  · exact .inl h3
  · right
    refine ⟨by simpa using h3, ?_⟩
    cases hk : ops[(oj.after[q]).on]? with
    | none => rw [hk] at h4; cases h4
    | some ok =>
      rw [hk] at h4
      simp only [Option.map_some, Option.getD_some, Array.any_eq_true] at h4
      obtain ⟨q2, hq2, h5⟩ := h4
      rw [Bool.and_eq_true, beq_iff_eq] at h5
      exact ⟨ok, rfl, _, Array.getElem_mem hq2, h5.1, h5.2⟩
theorem wpL_take2 {i : Nat} {oi : Oper} {v : Value} {n : Nat} {listed : Array Bool} {a : Act} {w : World} (hi : ops[i]? = some oi) (hs : (Region.noSelect ops && (!brk.contains i && (waits2 md ops brk listed i && (Region.free md ops listed i && ((Region.ready md ops listed).contains i && !broke brk listed))))) = true)
    (hQ : ∀ c a w, Q (.panic c) (a.put oi.dst v) w → Q (.panic c) a w) (hy : YieldsIf P ops S oi v a) (hS : S w) (h : wpL P md ops Q S brk n (listed.setIfInBounds i true) (a.put oi.dst v) w) : wpL P md ops Q S brk (n + 1) listed a w := by
  simp only [Bool.and_eq_true, Bool.not_eq_true'] at hs
  obtain ⟨h1, h2, h3, h4, h5, h6⟩ := hs
  exact wpL_load2 hi h1 hQ h2 n listed a w (waits2_spec h3) (Region.free_spec hi h4) (by simpa using h5) hy hS h6 h
end
end Go.Proofs.Yteimpkjpoijhmaa
