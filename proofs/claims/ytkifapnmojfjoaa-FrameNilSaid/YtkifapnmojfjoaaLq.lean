/-
  Kl: in one text.
-/
import Derived.Test.YtkifapnmojfjoaaLa
namespace Go.Proofs.Ytkifapnmojfjoaa
open Go.RowKit
set_option linter.unusedVariables false

section
variable {P : Program} {ops : Array Oper} {Q : Exit → Act → World → Prop} {md : Region.Mode} {S : World → Prop} {brk : List Nat}
/-- Has a breaker come up? -/
def broke (brk : List Nat) (listed : Array Bool) : Bool := brk.any fun j => listed.getD j false
/-- Whatever order is picked: S holds behind each operation until a breaker has come up. -/
def wpL (P : Program) (md : Region.Mode) (ops : Array Oper) (Q : Exit → Act → World → Prop) (S : World → Prop) (brk : List Nat) : Nat → Array Bool → Act → World → Prop
  | 0, listed, a, w => Region.ready md ops listed = [] ∧ Q .normal a w
  | n + 1, listed, a, w => (Region.ready md ops listed = [] → Q .normal a w) ∧
    ∀ i ∈ Region.ready md ops listed, wpOp P ops Q i (fun b v => (broke brk (listed.setIfInBounds i true) = true ∨ S v) ∧ wpL P md ops Q S brk n (listed.setIfInBounds i true) b v) a w
theorem wpL_plain : ∀ (n : Nat) (listed : Array Bool) (a : Act) (w : World), wpL P md ops Q S brk n listed a w → wpAny P md ops Q n listed a w
  | 0, _, _, _, h => h
  | n + 1, _, _, _, h => ⟨h.1, fun i hi => wpOp_mono (fun b v k => wpL_plain n _ b v k.2) (h.2 i hi)⟩
theorem wpL_swap {S' : World → Prop} (h : ∀ w, S' w → S w) : ∀ (n : Nat) (listed : Array Bool) (a : Act) (w : World), wpL P md ops Q S' brk n listed a w → wpL P md ops Q S brk n listed a w
  | 0, _, _, _, k => k
  | n + 1, _, _, _, k => ⟨k.1, fun i hi => wpOp_mono (fun _ _ g => ⟨g.1.imp id (h _), wpL_swap h n _ _ _ g.2⟩) (k.2 i hi)⟩
theorem broke_set {i : Nat} {listed : Array Bool} (h : brk.contains i = false) : broke brk (listed.setIfInBounds i true) = broke brk listed := by
  unfold broke
  induction brk with
  | nil => rfl
  | cons j l ih =>
    rw [List.contains_cons, Bool.or_eq_false_iff] at h
    rw [List.any_cons, List.any_cons, ih h.2, getD_set_ne false (fun e => by rw [e] at h; simp at h)]
/-- What reckons alone may be taken first, at whatever time. -/
theorem wpL_pure {i : Nat} {oi : Oper} {v : Value} (hi : ops[i]? = some oi) (hs : Region.noSelect ops = true) (hQ : ∀ c a w, Q (.panic c) (a.put oi.dst v) w → Q (.panic c) a w) (hb : brk.contains i = false) :
    ∀ (n : Nat) (listed : Array Bool) (a : Act) (w : World),
      (∀ j oj, ops[j]? = some oj → j ≠ i → listed.getD j true = false → (∀ e ∈ oj.after, Region.binds md e = true → e.on ≠ i) → oi.apart ops oj = true) →
      i ∈ Region.ready md ops listed → YieldsIf P ops (fun _ => True) oi v a → (broke brk listed = true ∨ S w) →
      wpL P md ops Q S brk n (listed.setIfInBounds i true) (a.put oi.dst v) w → wpL P md ops Q S brk (n + 1) listed a w := by
  intro n
  induction n with
  | zero =>
    intro listed a w _ hr hy hS H
    refine ⟨fun h => (by rw [h] at hr; cases hr), fun j hj => ?_⟩
    by_cases hji : j = i
    · subst hji; exact hy.wpOp hi trivial ⟨by rw [broke_set hb]; exact hS, H⟩
    · have := ready_mono hj hji
      rw [H.1] at this
      cases this
  | succ n ih =>
    intro listed a w hfree hr hy hS H
    refine ⟨fun h => (by rw [h] at hr; cases hr), fun j hj => ?_⟩
    by_cases hji : j = i
    · subst hji; exact hy.wpOp hi trivial ⟨by rw [broke_set hb]; exact hS, H⟩
    · obtain ⟨hjun, oj, hoj, hall⟩ := mem_ready.1 hj
      have hun := (mem_ready.1 hr).1
      have hno : ∀ e ∈ oj.after, Region.binds md e = true → e.on ≠ i := by
        intro e he hbd heq
        have h1 := hall e he hbd
        rw [heq] at h1
        rcases Nat.lt_or_ge i listed.size with h' | h'
        · simp [h'] at hun h1; rw [hun] at h1; cases h1
        · simp [Array.getElem?_eq_none h'] at h1
      refine wpOp_mono (fun b u k => ⟨?_, ih (listed.setIfInBounds j true) b u (fun t ot ht hti htn hto => hfree t ot ht hti ?_ hto) (ready_mono hr (Ne.symm hji)) k.1 ?_ ?_⟩)
        (wpOp_putIf hoj (hfree j oj hoj hji hjun hno) (fun cs b => Region.noSelect_spec hs i oi cs b hi) (fun cs b => Region.noSelect_spec hs j oj cs b hoj) hQ hy (H.2 j (ready_mono hj hji)))
      · have := k.2.1
        rw [Array.setIfInBounds_comm _ _ (Ne.symm hji), broke_set hb] at this
        exact this
      · by_cases hjt : j = t
        · subst hjt; exact hjun
        · rw [getD_set_ne true hjt] at htn; exact htn
      · have := k.2.1
        rw [Array.setIfInBounds_comm _ _ (Ne.symm hji), broke_set hb] at this
        exact this
      · rw [Array.setIfInBounds_comm _ _ hji]
        exact k.2.2
/-- What reads may be taken first, ahead of each breaker, where each breaker waits for it. -/
theorem wpL_load {i : Nat} {oi : Oper} {v : Value} (hi : ops[i]? = some oi) (hs : Region.noSelect ops = true) (hQ : ∀ c a w, Q (.panic c) (a.put oi.dst v) w → Q (.panic c) a w) (hb : brk.contains i = false)
    (hw : ∀ j oj, ops[j]? = some oj → brk.contains j = true → ∃ e ∈ oj.after, Region.binds md e = true ∧ e.on = i) :
    ∀ (n : Nat) (listed : Array Bool) (a : Act) (w : World),
      (∀ j oj, ops[j]? = some oj → j ≠ i → listed.getD j true = false → (∀ e ∈ oj.after, Region.binds md e = true → e.on ≠ i) → oi.apart ops oj = true) →
      i ∈ Region.ready md ops listed → YieldsIf P ops S oi v a → S w → broke brk listed = false →
      wpL P md ops Q S brk n (listed.setIfInBounds i true) (a.put oi.dst v) w → wpL P md ops Q S brk (n + 1) listed a w := by
  intro n
  induction n with
  | zero =>
    intro listed a w _ hr hy hS hB H
    refine ⟨fun h => (by rw [h] at hr; cases hr), fun j hj => ?_⟩
    by_cases hji : j = i
    · subst hji; exact hy.wpOp hi hS ⟨.inr hS, H⟩
    · have := ready_mono hj hji
      rw [H.1] at this
      cases this
  | succ n ih =>
    intro listed a w hfree hr hy hS hB H
    refine ⟨fun h => (by rw [h] at hr; cases hr), fun j hj => ?_⟩
    by_cases hji : j = i
    · subst hji; exact hy.wpOp hi hS ⟨.inr hS, H⟩
    · obtain ⟨hjun, oj, hoj, hall⟩ := mem_ready.1 hj
      have hun := (mem_ready.1 hr).1
      have hno : ∀ e ∈ oj.after, Region.binds md e = true → e.on ≠ i := by
        intro e he hbd heq
        have h1 := hall e he hbd
        rw [heq] at h1
        rcases Nat.lt_or_ge i listed.size with h' | h'
        · simp [h'] at hun h1; rw [hun] at h1; cases h1
        · simp [Array.getElem?_eq_none h'] at h1
      have hjb : brk.contains j = false := by
        cases hc : brk.contains j with
        | false => rfl
        | true =>
          obtain ⟨e, he, h1, h2⟩ := hw j oj hoj hc
          exact absurd h2 (hno e he h1)
      have hB2 : broke brk (listed.setIfInBounds j true) = false := by rw [broke_set hjb]; exact hB
      have hSk : ∀ u, (broke brk ((listed.setIfInBounds i true).setIfInBounds j true) = true ∨ S u) → S u := by
        intro u h
        rw [Array.setIfInBounds_comm _ _ (Ne.symm hji), broke_set hb, hB2] at h
        rcases h with h | h
        · cases h
        · exact h
      refine wpOp_mono (fun b u k => ⟨.inr (hSk u k.2.1), ih (listed.setIfInBounds j true) b u (fun t ot ht hti htn hto => hfree t ot ht hti ?_ hto) (ready_mono hr (Ne.symm hji)) k.1 (hSk u k.2.1) hB2 ?_⟩)
        (wpOp_putIf hoj (hfree j oj hoj hji hjun hno) (fun cs b => Region.noSelect_spec hs i oi cs b hi) (fun cs b => Region.noSelect_spec hs j oj cs b hoj) hQ hy (H.2 j (ready_mono hj hji)))
      · by_cases hjt : j = t
        · subst hjt; exact hjun
        · rw [getD_set_ne true hjt] at htn; exact htn
      · rw [Array.setIfInBounds_comm _ _ hji]
        exact k.2.2
/-! The moves. -/
def waits (md : Region.Mode) (ops : Array Oper) (brk : List Nat) (i : Nat) : Bool := (List.range ops.size).all fun j => !brk.contains j || ((ops[j]?).map fun o => o.after.any fun e => Region.binds md e && e.on == i).getD true
theorem waits_spec {i : Nat} (h : waits md ops brk i = true) (j : Nat) (oj : Oper) (hj : ops[j]? = some oj) (hb : brk.contains j = true) : ∃ e ∈ oj.after, Region.binds md e = true ∧ e.on = i := by
  unfold waits at h
  rw [List.all_eq_true] at h
  have h1 := h j (List.mem_range.2 (Array.getElem?_eq_some_iff.1 hj).1)
  rw [hb, hj] at h1
  simp only [Bool.not_true, Bool.false_or, Option.map_some, Option.getD_some, Array.any_eq_true] at h1
  obtain ⟨q, hq, h2⟩ := h1
  rw [Bool.and_eq_true, beq_iff_eq] at h2
  exact ⟨_, Array.getElem_mem hq, h2⟩
theorem wpL_take {i : Nat} {oi : Oper} {v : Value} {n : Nat} {listed : Array Bool} {a : Act} {w : World} (hi : ops[i]? = some oi) (hs : (Region.noSelect ops && (!brk.contains i && (waits md ops brk i && (Region.free md ops listed i && ((Region.ready md ops listed).contains i && !broke brk listed))))) = true)
    (hQ : ∀ c a w, Q (.panic c) (a.put oi.dst v) w → Q (.panic c) a w) (hy : YieldsIf P ops S oi v a) (hS : S w) (h : wpL P md ops Q S brk n (listed.setIfInBounds i true) (a.put oi.dst v) w) : wpL P md ops Q S brk (n + 1) listed a w := by
  simp only [Bool.and_eq_true, Bool.not_eq_true'] at hs
  obtain ⟨h1, h2, h3, h4, h5, h6⟩ := hs
  exact wpL_load hi h1 hQ h2 (waits_spec h3) n listed a w (Region.free_spec hi h4) (by simpa using h5) hy hS h6 h
theorem wpL_reckon {i : Nat} {oi : Oper} {v : Value} {n : Nat} {listed : Array Bool} {a : Act} {w : World} (hi : ops[i]? = some oi) (hs : (Region.noSelect ops && (!brk.contains i && (Region.free md ops listed i && (Region.ready md ops listed).contains i))) = true)
    (hQ : ∀ c a w, Q (.panic c) (a.put oi.dst v) w → Q (.panic c) a w) (hy : YieldsIf P ops (fun _ => True) oi v a) (hS : broke brk listed = true ∨ S w) (h : wpL P md ops Q S brk n (listed.setIfInBounds i true) (a.put oi.dst v) w) : wpL P md ops Q S brk (n + 1) listed a w := by
  simp only [Bool.and_eq_true, Bool.not_eq_true'] at hs
  obtain ⟨h1, h2, h4, h5⟩ := hs
  exact wpL_pure hi h1 hQ h2 n listed a w (Region.free_spec hi h4) (by simpa using h5) hy hS h
theorem wpL_done {listed : Array Bool} {a : Act} {w : World} (hr : Region.ready md ops listed = []) (h : Q .normal a w) : ∀ n, wpL P md ops Q S brk n listed a w
  | 0 => ⟨hr, h⟩
  | _ + 1 => ⟨fun _ => h, by rw [hr]; simp⟩
def AllL (P : Program) (md : Region.Mode) (ops : Array Oper) (Q : Exit → Act → World → Prop) (S : World → Prop) (brk : List Nat) (n : Nat) (listed : Array Bool) (a : Act) (w : World) (rs : List Nat) : Prop :=
  ∀ i ∈ rs, wpOp P ops Q i (fun b v => (broke brk (listed.setIfInBounds i true) = true ∨ S v) ∧ wpL P md ops Q S brk n (listed.setIfInBounds i true) b v) a w
theorem AllL.nil {n : Nat} {listed : Array Bool} {a : Act} {w : World} : AllL P md ops Q S brk n listed a w [] := fun _ h => by cases h
/-- A step under S: S is shown anew behind it. -/
theorem AllL.cons {n : Nat} {listed : Array Bool} {a : Act} {w : World} {i : Nat} {o : Oper} {rs : List Nat} (ho : ops[i]? = some o)
    (h : ∀ K : Act → World → Prop, Shut (∀ b v, S v → (S v → wpL P md ops Q S brk n (listed.setIfInBounds i true) b v) → K b v) → if Region.wanted o (yielded ops a.tmps) = true then Oper.wp P o a w K Q else K (a.put o.dst undef) w)
    (hs : AllL P md ops Q S brk n listed a w rs) : AllL P md ops Q S brk n listed a w (i :: rs) := fun j hj => by
  rcases List.mem_cons.1 hj with rfl | hj
  · exact wpOp_step ho fun K hK => h K fun b v hS hW => hK b v ⟨.inr hS, hW hS⟩
  · exact hs j hj
/-- A step behind which a breaker has come up. -/
theorem AllL.late {n : Nat} {listed : Array Bool} {a : Act} {w : World} {i : Nat} {o : Oper} {rs : List Nat} (ho : ops[i]? = some o) (hb : broke brk (listed.setIfInBounds i true) = true)
    (h : ∀ K : Act → World → Prop, Shut (∀ b v, wpL P md ops Q S brk n (listed.setIfInBounds i true) b v → K b v) → if Region.wanted o (yielded ops a.tmps) = true then Oper.wp P o a w K Q else K (a.put o.dst undef) w)
    (hs : AllL P md ops Q S brk n listed a w rs) : AllL P md ops Q S brk n listed a w (i :: rs) := fun j hj => by
  rcases List.mem_cons.1 hj with rfl | hj
  · exact wpOp_step ho fun K hK => h K fun b v hW => hK b v ⟨.inl hb, hW⟩
  · exact hs j hj
theorem wpL_ready {rs : List Nat} {n : Nat} {listed : Array Bool} {a : Act} {w : World} (hr : Region.ready md ops listed = rs) (hne : rs ≠ []) (h : AllL P md ops Q S brk n listed a w rs) : wpL P md ops Q S brk (n + 1) listed a w :=
  ⟨fun h0 => absurd (hr ▸ h0) hne, hr ▸ h⟩
theorem wp_region_L {id : Nat} {a : Act} {w : World} (brk : List Nat) (hm : P.follows .mixedOrders = true) (hS : S w.drew)
    (h : S w.drew → wpL P .any ops Q S brk ops.size (Array.replicate ops.size false) a w.drew) : (Code.region id ops true).wp P Q a w :=
  wp_region_any hm (wpL_plain _ _ _ _ (h hS))
end
end Go.Proofs.Ytkifapnmojfjoaa
