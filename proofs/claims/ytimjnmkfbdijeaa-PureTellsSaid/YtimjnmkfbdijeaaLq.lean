/-
  Kl, Nc, Nd: in one text.
-/
import Derived.Test.YtimjnmkfbdijeaaLa
import Derived.Test.YtimjnmkfbdijeaaMq
import Derived.Test.YtimjnmkfbdijeaaLg
import Derived.Test.YtimjnmkfbdijeaaLk
import Derived.ArgAppend
import Derived.Laws.Cover3
namespace Go.Proofs.Ytimjnmkfbdijeaa
open Go.RowKit
set_option linter.unusedVariables false

section
variable {P : Program} {ops : Array Oper} {Q : Exit → Act → World → Prop} {md : Region.Mode} {S : World → Prop} {brk : List Nat}
/-- Has a breaker come up? -/
def broke (brk : List Nat) (listed : Array Bool) : Bool := brk.any fun j => listed.getD j false
/-- Whatever order is picked: S holds behind each operation until a breaker has come up. -/
def wpL (P : Program) (md : Region.Mode) (ops : Array Oper) (Q : Exit → Act → World → Prop) (S : World → Prop) (brk : List Nat) : Nat → Array Bool → Act → World → Prop
  | 0, listed, a, w => Region.ready md ops listed = [] ∧ Q .normal a w
  | n + 1, listed, a, w => (Region.ready md ops listed = [] → Q .normal a w) ∧
    ∀ i ∈ Region.ready md ops listed, wpOp P ops Q i (fun b v => (broke brk (listed.setIfInBounds i true) = true ∨ S v) ∧ wpL P md ops Q S brk n (listed.setIfInBounds i true) b v) a w
theorem wpL_plain : ∀ (n : Nat) (listed : Array Bool) (a : Act) (w : World), wpL P md ops Q S brk n listed a w → wpAny P md ops Q n listed a w
  | 0, _, _, _, h => h
  | n + 1, _, _, _, h => ⟨h.1, fun i hi => wpOp_mono (fun b v k => wpL_plain n _ b v k.2) (h.2 i hi)⟩
theorem wpL_swap {S' : World → Prop} (h : ∀ w, S' w → S w) : ∀ (n : Nat) (listed : Array Bool) (a : Act) (w : World), wpL P md ops Q S' brk n listed a w → wpL P md ops Q S brk n listed a w
  | 0, _, _, _, k => k
  | n + 1, _, _, _, k => ⟨k.1, fun i hi => wpOp_mono (fun _ _ g => ⟨g.1.imp id (h _), wpL_swap h n _ _ _ g.2⟩) (k.2 i hi)⟩
theorem broke_set {i : Nat} {listed : Array Bool} (h : brk.contains i = false) : broke brk (listed.setIfInBounds i true) = broke brk listed := by
  unfold broke
  induction brk with
  | nil => rfl
  | cons j l ih =>
    rw [List.contains_cons, Bool.or_eq_false_iff] at h
    rw [List.any_cons, List.any_cons, ih h.2, getD_set_ne false (fun e => by rw [e] at h; simp at h)]
/-- What reckons alone may be taken first, at whatever time. -/
theorem wpL_pure {i : Nat} {oi : Oper} {v : Value} (hi : ops[i]? = some oi) (hs : Region.noSelect ops = true) (hQ : ∀ c a w, Q (.panic c) (a.put oi.dst v) w → Q (.panic c) a w) (hb : brk.contains i = false) :
    ∀ (n : Nat) (listed : Array Bool) (a : Act) (w : World),
      (∀ j oj, ops[j]? = some oj → j ≠ i → listed.getD j true = false → (∀ e ∈ oj.after, Region.binds md e = true → e.on ≠ i) → oi.apart ops oj = true) →
      i ∈ Region.ready md ops listed → YieldsIf P ops (fun _ => True) oi v a → (broke brk listed = true ∨ S w) →
      wpL P md ops Q S brk n (listed.setIfInBounds i true) (a.put oi.dst v) w → wpL P md ops Q S brk (n + 1) listed a w := by
  intro n
  induction n with
  | zero =>
    intro listed a w _ hr hy hS H
    refine ⟨fun h => (by rw [h] at hr; cases hr), fun j hj => ?_⟩
    by_cases hji : j = i
    · subst hji; exact hy.wpOp hi trivial ⟨by rw [broke_set hb]; exact hS, H⟩
    · have := ready_mono hj hji
      rw [H.1] at this
      cases this
  | succ n ih =>
    intro listed a w hfree hr hy hS H
    refine ⟨fun h => (by rw [h] at hr; cases hr), fun j hj => ?_⟩
    by_cases hji : j = i
    · subst hji; exact hy.wpOp hi trivial ⟨by rw [broke_set hb]; exact hS, H⟩
    · obtain ⟨hjun, oj, hoj, hall⟩ := mem_ready.1 hj
      have hun := (mem_ready.1 hr).1
      have hno : ∀ e ∈ oj.after, Region.binds md e = true → e.on ≠ i := by
        intro e he hbd heq
        have h1 := hall e he hbd
        rw [heq] at h1
        rcases Nat.lt_or_ge i listed.size with h' | h'
        · simp [h'] at hun h1; rw [hun] at h1; cases h1
        · simp [Array.getElem?_eq_none h'] at h1
      refine wpOp_mono (fun b u k => ⟨?_, ih (listed.setIfInBounds j true) b u (fun t ot ht hti htn hto => hfree t ot ht hti ?_ hto) (ready_mono hr (Ne.symm hji)) k.1 ?_ ?_⟩)
        (wpOp_putIf hoj (hfree j oj hoj hji hjun hno) (fun cs b => Region.noSelect_spec hs i oi cs b hi) (fun cs b => Region.noSelect_spec hs j oj cs b hoj) hQ hy (H.2 j (ready_mono hj hji)))
      · have := k.2.1
        rw [Array.setIfInBounds_comm _ _ (Ne.symm hji), broke_set hb] at this
        exact this
      · by_cases hjt : j = t
        · subst hjt; exact hjun
        · rw [getD_set_ne true hjt] at htn; exact htn
      · have := k.2.1
        rw [Array.setIfInBounds_comm _ _ (Ne.symm hji), broke_set hb] at this
        exact this
      · rw [Array.setIfInBounds_comm _ _ hji]
        exact k.2.2
/-- What reads may be taken first, ahead of each breaker, where each breaker waits for it. -/
theorem wpL_load {i : Nat} {oi : Oper} {v : Value} (hi : ops[i]? = some oi) (hs : Region.noSelect ops = true) (hQ : ∀ c a w, Q (.panic c) (a.put oi.dst v) w → Q (.panic c) a w) (hb : brk.contains i = false)
    (hw : ∀ j oj, ops[j]? = some oj → brk.contains j = true → ∃ e ∈ oj.after, Region.binds md e = true ∧ e.on = i) :
    ∀ (n : Nat) (listed : Array Bool) (a : Act) (w : World),
      (∀ j oj, ops[j]? = some oj → j ≠ i → listed.getD j true = false → (∀ e ∈ oj.after, Region.binds md e = true → e.on ≠ i) → oi.apart ops oj = true) →
      i ∈ Region.ready md ops listed → YieldsIf P ops S oi v a → S w → broke brk listed = false →
      wpL P md ops Q S brk n (listed.setIfInBounds i true) (a.put oi.dst v) w → wpL P md ops Q S brk (n + 1) listed a w := by
  intro n
  induction n with
  | zero =>
    intro listed a w _ hr hy hS hB H
    refine ⟨fun h => (by rw [h] at hr; cases hr), fun j hj => ?_⟩
    by_cases hji : j = i
    · subst hji; exact hy.wpOp hi hS ⟨.inr hS, H⟩
    · have := ready_mono hj hji
      rw [H.1] at this
      cases this
  | succ n ih =>
    intro listed a w hfree hr hy hS hB H
    refine ⟨fun h => (by rw [h] at hr; cases hr), fun j hj => ?_⟩
    by_cases hji : j = i
    · subst hji; exact hy.wpOp hi hS ⟨.inr hS, H⟩
    · obtain ⟨hjun, oj, hoj, hall⟩ := mem_ready.1 hj
      have hun := (mem_ready.1 hr).1
      have hno : ∀ e ∈ oj.after, Region.binds md e = true → e.on ≠ i := by
        intro e he hbd heq
        have h1 := hall e he hbd
        rw [heq] at h1
        rcases Nat.lt_or_ge i listed.size with h' | h'
        · simp [h'] at hun h1; rw [hun] at h1; cases h1
        · simp [Array.getElem?_eq_none h'] at h1
      have hjb : brk.contains j = false := by
        cases hc : brk.contains j with
        | false => rfl
        | true =>
          obtain ⟨e, he, h1, h2⟩ := hw j oj hoj hc
          exact absurd h2 (hno e he h1)
      have hB2 : broke brk (listed.setIfInBounds j true) = false := by rw [broke_set hjb]; exact hB
      have hSk : ∀ u, (broke brk ((listed.setIfInBounds i true).setIfInBounds j true) = true ∨ S u) → S u := by
        intro u h
        rw [Array.setIfInBounds_comm _ _ (Ne.symm hji), broke_set hb, hB2] at h
        rcases h with h | h
        · cases h
        · exact h
      refine wpOp_mono (fun b u k => ⟨.inr (hSk u k.2.1), ih (listed.setIfInBounds j true) b u (fun t ot ht hti htn hto => hfree t ot ht hti ?_ hto) (ready_mono hr (Ne.symm hji)) k.1 (hSk u k.2.1) hB2 ?_⟩)
        (wpOp_putIf hoj (hfree j oj hoj hji hjun hno) (fun cs b => Region.noSelect_spec hs i oi cs b hi) (fun cs b => Region.noSelect_spec hs j oj cs b hoj) hQ hy (H.2 j (ready_mono hj hji)))
      · by_cases hjt : j = t
        · subst hjt; exact hjun
        · rw [getD_set_ne true hjt] at htn; exact htn
      · rw [Array.setIfInBounds_comm _ _ hji]
        exact k.2.2
/-! The moves. -/
def waits (md : Region.Mode) (ops : Array Oper) (brk : List Nat) (i : Nat) : Bool := (List.range ops.size).all fun j => !brk.contains j || ((ops[j]?).map fun o => o.after.any fun e => Region.binds md e && e.on == i).getD true
theorem waits_spec {i : Nat} (h : waits md ops brk i = true) (j : Nat) (oj : Oper) (hj : ops[j]? = some oj) (hb : brk.contains j = true) : ∃ e ∈ oj.after, Region.binds md e = true ∧ e.on = i := by
  unfold waits at h
  rw [List.all_eq_true] at h
  have h1 := h j (List.mem_range.2 (Array.getElem?_eq_some_iff.1 hj).1)
  rw [hb, hj] at h1
  simp only [Bool.not_true, Bool.false_or, Option.map_some, Option.getD_some, Array.any_eq_true] at h1
  obtain ⟨q, hq, h2⟩ := h1
  rw [Bool.and_eq_true, beq_iff_eq] at h2
  exact ⟨_, Array.getElem_mem hq, h2⟩
theorem wpL_take {i : Nat} {oi : Oper} {v : Value} {n : Nat} {listed : Array Bool} {a : Act} {w : World} (hi : ops[i]? = some oi) (hs : (Region.noSelect ops && (!brk.contains i && (waits md ops brk i && (Region.free md ops listed i && ((Region.ready md ops listed).contains i && !broke brk listed))))) = true)
    (hQ : ∀ c a w, Q (.panic c) (a.put oi.dst v) w → Q (.panic c) a w) (hy : YieldsIf P ops S oi v a) (hS : S w) (h : wpL P md ops Q S brk n (listed.setIfInBounds i true) (a.put oi.dst v) w) : wpL P md ops Q S brk (n + 1) listed a w := by
  simp only [Bool.and_eq_true, Bool.not_eq_true'] at hs
  obtain ⟨h1, h2, h3, h4, h5, h6⟩ := hs
  exact wpL_load hi h1 hQ h2 (waits_spec h3) n listed a w (Region.free_spec hi h4) (by simpa using h5) hy hS h6 h
theorem wpL_reckon {i : Nat} {oi : Oper} {v : Value} {n : Nat} {listed : Array Bool} {a : Act} {w : World} (hi : ops[i]? = some oi) (hs : (Region.noSelect ops && (!brk.contains i && (Region.free md ops listed i && (Region.ready md ops listed).contains i))) = true)
    (hQ : ∀ c a w, Q (.panic c) (a.put oi.dst v) w → Q (.panic c) a w) (hy : YieldsIf P ops (fun _ => True) oi v a) (hS : broke brk listed = true ∨ S w) (h : wpL P md ops Q S brk n (listed.setIfInBounds i true) (a.put oi.dst v) w) : wpL P md ops Q S brk (n + 1) listed a w := by
  simp only [Bool.and_eq_true, Bool.not_eq_true'] at hs
  obtain ⟨h1, h2, h4, h5⟩ := hs
  exact wpL_pure hi h1 hQ h2 n listed a w (Region.free_spec hi h4) (by simpa using h5) hy hS h
theorem wpL_done {listed : Array Bool} {a : Act} {w : World} (hr : Region.ready md ops listed = []) (h : Q .normal a w) : ∀ n, wpL P md ops Q S brk n listed a w
  | 0 => ⟨hr, h⟩
  | _ + 1 => ⟨fun _ => h, by rw [hr]; simp⟩
def AllL (P : Program) (md : Region.Mode) (ops : Array Oper) (Q : Exit → Act → World → Prop) (S : World → Prop) (brk : List Nat) (n : Nat) (listed : Array Bool) (a : Act) (w : World) (rs : List Nat) : Prop :=
  ∀ i ∈ rs, wpOp P ops Q i (fun b v => (broke brk (listed.setIfInBounds i true) = true ∨ S v) ∧ wpL P md ops Q S brk n (listed.setIfInBounds i true) b v) a w
theorem AllL.nil {n : Nat} {listed : Array Bool} {a : Act} {w : World} : AllL P md ops Q S brk n listed a w [] := fun _ h => by cases h
/-- A step under S: S is shown anew behind it. -/
theorem AllL.cons {n : Nat} {listed : Array Bool} {a : Act} {w : World} {i : Nat} {o : Oper} {rs : List Nat} (ho : ops[i]? = some o)
    (h : ∀ K : Act → World → Prop, Shut (∀ b v, S v → (S v → wpL P md ops Q S brk n (listed.setIfInBounds i true) b v) → K b v) → if Region.wanted o (yielded ops a.tmps) = true then Oper.wp P o a w K Q else K (a.put o.dst undef) w)
    (hs : AllL P md ops Q S brk n listed a w rs) : AllL P md ops Q S brk n listed a w (i :: rs) := fun j hj => by
  rcases List.mem_cons.1 hj with rfl | hj
  · exact wpOp_step ho fun K hK => h K fun b v hS hW => hK b v ⟨.inr hS, hW hS⟩
  · exact hs j hj
/-- A step behind which a breaker has come up. -/
theorem AllL.late {n : Nat} {listed : Array Bool} {a : Act} {w : World} {i : Nat} {o : Oper} {rs : List Nat} (ho : ops[i]? = some o) (hb : broke brk (listed.setIfInBounds i true) = true)
    (h : ∀ K : Act → World → Prop, Shut (∀ b v, wpL P md ops Q S brk n (listed.setIfInBounds i true) b v → K b v) → if Region.wanted o (yielded ops a.tmps) = true then Oper.wp P o a w K Q else K (a.put o.dst undef) w)
    (hs : AllL P md ops Q S brk n listed a w rs) : AllL P md ops Q S brk n listed a w (i :: rs) := fun j hj => by
  rcases List.mem_cons.1 hj with rfl | hj
  · exact wpOp_step ho fun K hK => h K fun b v hW => hK b v ⟨.inl hb, hW⟩
  · exact hs j hj
theorem wpL_ready {rs : List Nat} {n : Nat} {listed : Array Bool} {a : Act} {w : World} (hr : Region.ready md ops listed = rs) (hne : rs ≠ []) (h : AllL P md ops Q S brk n listed a w rs) : wpL P md ops Q S brk (n + 1) listed a w :=
  ⟨fun h0 => absurd (hr ▸ h0) hne, hr ▸ h⟩
theorem wp_region_L {id : Nat} {a : Act} {w : World} (brk : List Nat) (hm : P.follows .mixedOrders = true) (hS : S w.drew)
    (h : S w.drew → wpL P .any ops Q S brk ops.size (Array.replicate ops.size false) a w.drew) : (Code.region id ops true).wp P Q a w :=
  wp_region_any hm (wpL_plain _ _ _ _ (h hS))
end
end Go.Proofs.Ytimjnmkfbdijeaa
namespace Go.Proofs.Ytimjnmkfbdijeaa
open Go.RowKit
set_option maxRecDepth 100000
set_option linter.unusedSimpArgs false
set_option linter.unusedVariables false

theorem cem_inv {Z : List Me} {j : Nat} {u : Value} (h : (cem Z)[j]? = some u) : ∃ i k z, Z[i]? = some z ∧ k < 8 ∧ j = i * 8 + k ∧ (ce8 z)[k]? = some u := by
  have hj := (List.getElem?_eq_some_iff.1 h).1
  rw [length_cem] at hj
  have hi : j / 8 < Z.length := by omega
  refine ⟨j / 8, j % 8, Z[j / 8], List.getElem?_eq_getElem hi, by omega, by omega, ?_⟩
  rw [← cem_at (List.getElem?_eq_getElem hi) (j % 8) (by omega), show j / 8 * 8 + j % 8 = j by omega]
  exact h
theorem madd (ad : Addr) (i k : Nat) (hk : 0 < k) : ad.add (i * 8 + k) = ⟨(ad.add (i * 8)).block, (ad.add (i * 8)).off + k, none⟩ := by
  unfold Addr.add
  rw [if_neg (by omega)]
  split
  · rename_i h0; simp [h0]
  · simp; omega
theorem rm_cells {w : World} {ad : Addr} {c : Nat} {L : List Me} (h : Rm w (some ad) c L) (hc : 0 < c) : ∀ j u, (cem L)[j]? = some u → w.cell? (ad.add j) = some u := by
  intro j u hj
  obtain ⟨i, k, z, hz, hk, rfl, hu⟩ := cem_inv hj
  rcases h.2.2.2 with ⟨ha, _⟩ | ⟨ad', ha, hcell⟩
  · cases ha
  · injection ha with ha
    subst ha
    obtain ⟨h1, h2, h3, h4, h5, h6, h7, h8⟩ := hcell i z hz
    match k, hk with
    | 0, _ => simp [ce8] at hu; subst hu; exact h1
    | 1, _ => simp [ce8] at hu; subst hu; rw [madd _ _ _ (by omega)]; exact h2
    | 2, _ => simp [ce8] at hu; subst hu; rw [madd _ _ _ (by omega)]; exact h3
    | 3, _ => simp [ce8] at hu; subst hu; rw [madd _ _ _ (by omega)]; exact h4
    | 4, _ => simp [ce8] at hu; subst hu; rw [madd _ _ _ (by omega)]; exact h5
    | 5, _ => simp [ce8] at hu; subst hu; rw [madd _ _ _ (by omega)]; exact h6
    | 6, _ => simp [ce8] at hu; subst hu; rw [madd _ _ _ (by omega)]; exact h7
    | 7, _ => simp [ce8] at hu; subst hu; rw [madd _ _ _ (by omega)]; exact h8
theorem cem_one2 (L : List Me) : ∀ u ∈ cem L, u.oneCell' = true := by
  intro u hu
  simp only [cem, List.mem_flatMap] at hu
  obtain ⟨x, _, hx⟩ := hu
  exact ce8_one x u hx
/-- append of a slice of methods, to a slice of the call's own. -/
theorem wpList_append_rms (w : World) {ops : Array Oper} {rest : List Oper} {o : Oper} {a : Act} {Q : Exit → Act → World → Prop} (hgd : o.guard = none) (s x : Operand)
    (ho : o.op = .call { callee := .builtin .append, args := #[s, x], argTypes := #[23, 23] })
    (base : Nat) (v : Value) (n : Nat) (K : List Me) (hs : a.eval s = v) (hown : w.ownsRow base 52 8 v n (cem K))
    (A : Option Addr) (m c : Nat) (L : List Me) (hx : a.eval x = .slice A m c) (hr : Rm w A c L) (hm : m = L.length) (hbytes : n + m ≤ 1000000) (hbase : base ≤ w.heap.size)
    (h : ∀ A' c' w', w'.ownsRow base 52 8 (.slice A' (n + m) c') (n + m) (cem (K ++ L)) → Below base w w' → wpList Try.prog ops Q rest (a.put o.dst (.slice A' (n + m) c')) w') : wpList Try.prog ops Q (o :: rest) a w := by
  have hinfo := Try.infoM
  rw [Option.map_eq_some_iff] at hinfo
  obtain ⟨i, hi, hz⟩ := hinfo
  simp only [Prod.mk.injEq] at hz
  obtain ⟨hz0, hz1, hz2⟩ := hz
  have hbel : ∀ {w'}, w.grownBy w' v.ownBlock → Below base w w' := fun hg => (Below.refl _ _).grown hg hbase fun g hg' => (hown.lt g hg').1
  rcases hr.2.2.2 with ⟨rfl, rfl⟩ | ⟨ad, rfl, hcell⟩
  · have h0 : L = [] := List.eq_nil_of_length_eq_zero (by have := hr.le; omega)
    subst h0
    obtain rfl : m = 0 := hm
    refine wpList_append_own_none hgd s x 23 ho base 52 i 8 Try.underlying23 hi v n (cem K) hs hown hx ?_
    obtain ⟨A', c', rfl⟩ := own_form hown
    have := h A' c' w (by simpa using hown) (hbel (World.grownBy.refl w _))
    simpa using this
  · by_cases hc : c = 0
    · subst hc
      have h0 : L = [] := List.eq_nil_of_length_eq_zero (by have := hr.le; omega)
      subst h0
      obtain rfl : m = 0 := hm
      refine wpList_append_own_at w hgd s x 23 ho base 52 i _ 8 104 Try.underlying23 hi hz0 hz1 hz2 rfl (by decide) v n (cem K) hs hown ad 0 0 [] hx rfl (fun j u hj => by cases hj) (fun u hu => by cases hu) (by unfold maxLen; omega) (by omega) hbase ?_
      intro v' w' hown' hg _ _
      obtain ⟨A', c', rfl⟩ := own_form hown'
      exact h A' c' w' (by simpa using hown') (hbel hg)
    · refine wpList_append_own_at w hgd s x 23 ho base 52 i _ 8 104 Try.underlying23 hi hz0 hz1 hz2 rfl (by decide) v n (cem K) hs hown ad m c (cem L) hx (by rw [length_cem, hm])
        (rm_cells hr (by omega)) (cem_one2 L) (by unfold maxLen; omega) (by omega) hbase ?_
      intro v' w' hown' hg _ _
      obtain ⟨A', c', rfl⟩ := own_form hown'
      exact h A' c' w' (by rw [cem_append]; exact hown') (hbel hg)
theorem nilV_v (w : World) (A : Option Addr) (m c : Nat) : (binOp .eql 22 (.slice A m c) (.slice none 0 0)).run Try.prog w = .ok (.bool A.isNone) w := by
  simp [binOp, run_equal_slice_nil w 22 69 A m c Try.underlying22]
theorem cloneV_v (A : Option Addr) (c m : Nat) (L : List Vlu) (w : World) (hr : Rv w A c L) (hm : L.length = m) (hl : m ≤ 1000000) : Calls Try.prog 29 #[.slice A m c] w fun e w' => ∃ A' c', e = .returned (.slice A' m c') ∧ w'.ownsRow w.heap.size 69 3 (.slice A' m c') m (cev L) ∧ Below w.heap.size w w' := by
  cases A with
  | none =>
    obtain rfl : c = 0 := by rcases hr.2.2.2 with ⟨_, h⟩ | ⟨_, h, _⟩; exact h; cases h
    obtain rfl : L = [] := List.eq_nil_of_length_eq_zero (by have := hr.le; omega)
    obtain rfl : m = 0 := hm.symm
    have q := fun w => nilV_v w none 0 0
    go_enter Try.func29, Try.ntmps29
    go_wp2_with fail
    go_ret
    exact ⟨none, 0, rfl, World.ownsRow_nil _ _ _ _, Below.refl _ _⟩
  | some ad =>
    have HO := Lib.hid (show (w.alloc (.cells #[] 69)).ownsRow w.heap.size 69 3 (.slice (some ⟨w.heap.size, 0, none⟩) 0 0) 0 (cev []) from
      World.ownsRow_lit (base := w.heap.size) (e := 69) (size := 3) w #[] 0 (Nat.le_refl _) (by unfold maxLen; simp) (by simp))
    have HR := Lib.hid (hr.keep (new1 (a := .cells #[] 69)))
    clear hr
    have q := fun w => nilV_v w (some ad) m c
    go_enter Try.func29, Try.ntmps29
    go_wp2_with (at_builtin; refine wpList_append_rv _ rfl (.tmp 5) (.tmp 6) rfl w.heap.size _ 0 [] rfl HO.out (some ad) m c L rfl HR.out hm.symm (by omega) (by simp) ?_)
    intro A' c' w1 ho hb
    have HO1 := Lib.hid ho
    have HB := Lib.hid (new1.trans hb)
    clear ho hb
    go_wp2_with fail
    go_ret
    exact ⟨A', c', rfl, by simpa using HO1.out, HB.out⟩
theorem nilM_v (w : World) (A : Option Addr) (m c : Nat) : (binOp .eql 23 (.slice A m c) (.slice none 0 0)).run Try.prog w = .ok (.bool A.isNone) w := by
  simp [binOp, run_equal_slice_nil w 23 52 A m c Try.underlying23]
theorem cloneM_v (A : Option Addr) (c m : Nat) (L : List Me) (w : World) (hr : Rm w A c L) (hm : L.length = m) (hl : m ≤ 1000000) : Calls Try.prog 30 #[.slice A m c] w fun e w' => ∃ A' c', e = .returned (.slice A' m c') ∧ w'.ownsRow w.heap.size 52 8 (.slice A' m c') m (cem L) ∧ Below w.heap.size w w' := by
  cases A with
  | none =>
    obtain rfl : c = 0 := by rcases hr.2.2.2 with ⟨_, h⟩ | ⟨_, h, _⟩; exact h; cases h
    obtain rfl : L = [] := List.eq_nil_of_length_eq_zero (by have := hr.le; omega)
    obtain rfl : m = 0 := hm.symm
    have q := fun w => nilM_v w none 0 0
    go_enter Try.func30, Try.ntmps30
    go_wp2_with fail
    go_ret
    exact ⟨none, 0, rfl, World.ownsRow_nil _ _ _ _, Below.refl _ _⟩
  | some ad =>
    have HO := Lib.hid (show (w.alloc (.cells #[] 52)).ownsRow w.heap.size 52 8 (.slice (some ⟨w.heap.size, 0, none⟩) 0 0) 0 (cem []) from
      World.ownsRow_lit (base := w.heap.size) (e := 52) (size := 8) w #[] 0 (Nat.le_refl _) (by unfold maxLen; simp) (by simp))
    have HR := Lib.hid (hr.keep (new1 (a := .cells #[] 52)))
    clear hr
    have q := fun w => nilM_v w (some ad) m c
    go_enter Try.func30, Try.ntmps30
    go_wp2_with (at_builtin; refine wpList_append_rms _ rfl (.tmp 5) (.tmp 6) rfl w.heap.size _ 0 [] rfl HO.out (some ad) m c L rfl HR.out hm.symm (by omega) (by simp) ?_)
    intro A' c' w1 ho hb
    have HO1 := Lib.hid ho
    have HB := Lib.hid (new1.trans hb)
    clear ho hb
    go_wp2_with fail
    go_ret
    exact ⟨A', c', rfl, by simpa using HO1.out, HB.out⟩
theorem nilI_v (w : World) (A : Option Addr) (m c : Nat) : (binOp .eql 50 (.slice A m c) (.slice none 0 0)).run Try.prog w = .ok (.bool A.isNone) w := by
  simp [binOp, run_equal_slice_nil w 50 57 A m c Try.underlying50]
theorem cloneI_v (A : Option Addr) (c m : Nat) (L : List Ins) (w : World) (hr : Ri w A c L) (hm : L.length = m) (hl : m ≤ 1000000) : Calls Try.prog 32 #[.slice A m c] w fun e w' => ∃ A' c', e = .returned (.slice A' m c') ∧ w'.ownsRow w.heap.size 57 3 (.slice A' m c') m (cei L) ∧ Below w.heap.size w w' := by
  cases A with
  | none =>
    obtain rfl : c = 0 := by rcases hr.2.2.2 with ⟨_, h⟩ | ⟨_, h, _⟩; exact h; cases h
    obtain rfl : L = [] := List.eq_nil_of_length_eq_zero (by have := hr.le; omega)
    obtain rfl : m = 0 := hm.symm
    have q := fun w => nilI_v w none 0 0
    go_enter Try.func32, Try.ntmps32
    go_wp2_with fail
    go_ret
    exact ⟨none, 0, rfl, World.ownsRow_nil _ _ _ _, Below.refl _ _⟩
  | some ad =>
    have HO := Lib.hid (show (w.alloc (.cells #[] 57)).ownsRow w.heap.size 57 3 (.slice (some ⟨w.heap.size, 0, none⟩) 0 0) 0 (cei []) from
      World.ownsRow_lit (base := w.heap.size) (e := 57) (size := 3) w #[] 0 (Nat.le_refl _) (by unfold maxLen; simp) (by simp))
    have HR := Lib.hid (hr.keep (new1 (a := .cells #[] 57)))
    clear hr
    have q := fun w => nilI_v w (some ad) m c
    go_enter Try.func32, Try.ntmps32
    go_wp2_with (at_builtin; refine wpList_append_ri _ rfl (.tmp 5) (.tmp 6) rfl w.heap.size _ 0 [] rfl HO.out (some ad) m c L rfl HR.out hm.symm (by omega) (by simp) ?_)
    intro A' c' w1 ho hb
    have HO1 := Lib.hid ho
    have HB := Lib.hid (new1.trans hb)
    clear ho hb
    go_wp2_with fail
    go_ret
    exact ⟨A', c', rfl, by simpa using HO1.out, HB.out⟩
theorem nilB_v (w : World) (A : Option Addr) (m c : Nat) : (binOp .eql 49 (.slice A m c) (.slice none 0 0)).run Try.prog w = .ok (.bool A.isNone) w := by
  simp [binOp, run_equal_slice_nil w 49 5 A m c Try.underlying49]
theorem cloneB_v (A : Option Addr) (c m : Nat) (L : List Int) (w : World) (hr : Rd w A c L) (hm : L.length = m) (hl : m ≤ 1000000) : Calls Try.prog 31 #[.slice A m c] w fun e w' => ∃ A' c', e = .returned (.slice A' m c') ∧ w'.ownsRow w.heap.size 5 1 (.slice A' m c') m (cel L) ∧ Below w.heap.size w w' := by
  cases A with
  | none =>
    obtain rfl : c = 0 := by rcases hr.2.2.2 with ⟨_, h⟩ | ⟨_, h, _⟩; exact h; cases h
    obtain rfl : L = [] := List.eq_nil_of_length_eq_zero (by have := hr.le; omega)
    obtain rfl : m = 0 := hm.symm
    have q := fun w => nilB_v w none 0 0
    go_enter Try.func31, Try.ntmps31
    go_wp2_with fail
    go_ret
    exact ⟨none, 0, rfl, World.ownsRow_nil _ _ _ _, Below.refl _ _⟩
  | some ad =>
    have HO := Lib.hid (show (w.alloc (.cells #[] 5)).ownsRow w.heap.size 5 1 (.slice (some ⟨w.heap.size, 0, none⟩) 0 0) 0 (cel []) from
      World.ownsRow_lit (base := w.heap.size) (e := 5) (size := 1) w #[] 0 (Nat.le_refl _) (by unfold maxLen; simp) (by simp))
    have HR := Lib.hid (hr.keep (new1 (a := .cells #[] 5)))
    clear hr
    have q := fun w => nilB_v w (some ad) m c
    go_enter Try.func31, Try.ntmps31
    go_wp2_with (at_builtin; obtain ⟨i0, hi, hz0, hz1, hz2⟩ := info_parts Try.info5; refine wpList_append_rd _ rfl (.tmp 5) (.tmp 6) 49 rfl w.heap.size 5 i0 Try.underlying49 hi hz0 hz1 hz2 _ 0 [] rfl HO.out (some ad) m c L rfl HR.out hm.symm (by omega) (by simp) ?_)
    intro A' c' w1 ho hg hb _
    have HO1 := Lib.hid ho
    have HB := Lib.hid (new1.trans hb)
    clear ho hg hb
    go_wp2_with fail
    go_ret
    exact ⟨A', c', rfl, by simpa using HO1.out, HB.out⟩
end Go.Proofs.Ytimjnmkfbdijeaa
namespace Go.Proofs.Ytimjnmkfbdijeaa
open Go.RowKit
set_option maxRecDepth 100000
set_option linter.unusedSimpArgs false
set_option linter.unusedVariables false

/-- The result's cell: a module that is nothing yet. -/
abbrev fMz (B : Nat) : Fct := ⟨fun w => Mf w B ∧ Db w B Ma.zero Md.zero, fun _ _ h hb => ⟨h.1.keep hb, h.2.keep hb⟩⟩
/-- A method whose rows are the call's own. -/
def Wz (w : World) (lo : Nat) (z : Me) : Prop := (Byt z.m.a ∧ Byt z.m.l ∧ z.m.nums ∧ (∀ x ∈ z.k, InOk x) ∧ z.k.length = z.x.k) ∧ w.ownsRow lo 5 1 (.slice z.x.A z.m.a.length z.x.c) z.m.a.length (cel z.m.a) ∧
  w.ownsRow lo 5 1 (.slice z.x.B z.m.l.length z.x.d) z.m.l.length (cel z.m.l) ∧ w.ownsRow lo 57 3 (.slice z.x.D z.x.k z.x.e) z.x.k (cei z.k)
section
variable {w w' : World} {lo : Nat} {z : Me}
theorem Wz.ok (h : Wz w lo z) : z.ok w := ⟨⟨own_rd h.2.1 h.1.1, own_rd h.2.2.1 h.1.2.1, h.1.2.2.1⟩, (Ri.of_own h.2.2.2 h.1.2.2.2.1).1, h.1.2.2.2.2⟩
theorem Wz.keep (h : Wz w lo z) (hb : Below w.heap.size w w') : Wz w' lo z := ⟨h.1, own_below h.2.1 hb (Nat.le_refl _), own_below h.2.2.1 hb (Nat.le_refl _), own_below h.2.2.2 hb (Nat.le_refl _)⟩
theorem Wz.tag (h : Wz w lo z) {B k : Nat} (hB : Bk w B 52 k) (j : Nat) (u : Value) : Wz (w.setCell ⟨B, j, none⟩ u) lo z := ⟨h.1, own_tag h.2.1 hB (by decide) j u, own_tag h.2.2.1 hB (by decide) j u, own_tag h.2.2.2 hB (by decide) j u⟩
theorem Wz.ow (h : Wz w lo z) {lo2 hi : Nat} (h1 : lo2 ≤ lo) (h2 : w.heap.size ≤ hi) : Owz w lo2 hi z := ⟨Rs.of_own h.2.1 h1 h2, Rs.of_own h.2.2.1 h1 h2, Rs.of_own h.2.2.2 h1 h2⟩
end
/-- A method's cells are stored at a place. -/
def st8 (w : World) (g o : Nat) (z : Me) : World :=
  (((((((w.setCell ⟨g, o, none⟩ (.slice z.x.A z.m.a.length z.x.c)).setCell ⟨g, o + 1, none⟩ (.slice z.x.B z.m.l.length z.x.d)).setCell ⟨g, o + 2, none⟩ (.int .u8 z.m.r)).setCell ⟨g, o + 3, none⟩ (.bool z.m.q)).setCell ⟨g, o + 4, none⟩ (.int .i64 z.m.f)).setCell ⟨g, o + 5, none⟩ (.int .i64 z.m.s)).setCell ⟨g, o + 6, none⟩ (.int .i64 z.m.h)).setCell ⟨g, o + 7, none⟩ (.slice z.x.D z.x.k z.x.e)
/-- Whatever a store to the block keeps. -/
theorem st8_keep {p : World → Prop} {w : World} {g : Nat} (hp : p w) (h : ∀ w' j u, p w' → p (w'.setCell ⟨g, j, none⟩ u)) (o : Nat) (z : Me) : p (st8 w g o z) := h _ _ _ (h _ _ _ (h _ _ _ (h _ _ _ (h _ _ _ (h _ _ _ (h _ _ _ (h _ _ _ hp)))))))
theorem cem_put (T R : List Me) (z z' : Me) : ((((((((cem (T ++ z :: R)).set (T.length * 8) (.slice z'.x.A z'.m.a.length z'.x.c)).set (T.length * 8 + 1) (.slice z'.x.B z'.m.l.length z'.x.d)).set (T.length * 8 + 2) (.int .u8 z'.m.r)).set (T.length * 8 + 3) (.bool z'.m.q)).set (T.length * 8 + 4) (.int .i64 z'.m.f)).set (T.length * 8 + 5) (.int .i64 z'.m.s)).set (T.length * 8 + 6) (.int .i64 z'.m.h)).set (T.length * 8 + 7) (.slice z'.x.D z'.x.k z'.x.e) = cem ((T ++ [z']) ++ R) := by
  have e : cem (T ++ z :: R) = cem T ++ (ce8 z ++ cem R) := by simp [cem]
  have e2 : cem ((T ++ [z']) ++ R) = cem T ++ (ce8 z' ++ cem R) := by simp [cem]
  have hl := length_cem T
  have k : ∀ (L : List Value) (i : Nat) (u : Value), (cem T ++ L).set (T.length * 8 + i) u = cem T ++ L.set i u := fun L i u => by
    rw [List.set_append_right _ _ (by rw [hl]; omega), hl, show T.length * 8 + i - T.length * 8 = i by omega]
  have k0 : ∀ (L : List Value) (u : Value), (cem T ++ L).set (T.length * 8) u = cem T ++ L.set 0 u := fun L u => k L 0 u
  rw [e, e2, k0, k, k, k, k, k, k, k]
  rfl
theorem st8_own {w : World} {base g cap n : Nat} {T R : List Me} {z : Me} (h : w.ownsRow base 52 8 (.slice (some ⟨g, 0, none⟩) n cap) n (cem (T ++ z :: R))) (z' : Me) : (st8 w g (T.length * 8) z').ownsRow base 52 8 (.slice (some ⟨g, 0, none⟩) n cap) n (cem ((T ++ [z']) ++ R)) := by
  have := ((((((((((((((((h.stored (T.length * 8) (.slice z'.x.A z'.m.a.length z'.x.c)).1).stored (T.length * 8 + 1) (.slice z'.x.B z'.m.l.length z'.x.d)).1).stored (T.length * 8 + 2) (.int .u8 z'.m.r)).1).stored (T.length * 8 + 3) (.bool z'.m.q)).1).stored (T.length * 8 + 4) (.int .i64 z'.m.f)).1).stored (T.length * 8 + 5) (.int .i64 z'.m.s)).1).stored (T.length * 8 + 6) (.int .i64 z'.m.h)).1).stored (T.length * 8 + 7) (.slice z'.x.D z'.x.k z'.x.e)).1)
  rw [cem_put] at this
  exact this
/-- The block of a row of the call's own. -/
theorem own_bk {w : World} {base e size n g cap : Nat} {xs : List Value} (h : w.ownsRow base e size (.slice (some ⟨g, 0, none⟩) n cap) n xs) : (∃ k, Bk w g e k) ∧ base ≤ g := by
  rcases h.2 with ⟨hv, _⟩ | ⟨g', cap', cur, hv, hg, hb, _⟩
  · cases hv
  · injection hv with e1 _ _
    injection e1 with e1
    injection e1 with e1
    subst e1
    exact ⟨⟨cur.size, cur, hb, rfl⟩, hg⟩
/-- Amid Copy: T are the methods so far. -/
def Cp8 (w : World) (B1 : Nat) (y1 : Ma) (d : Md) (T R : List Me) (wr : World) : Prop :=
  Below B1 w wr ∧ Db wr B1 y1 d ∧ (Mf wr (B1 + 1) ∧ Db wr (B1 + 1) Ma.zero Md.zero) ∧ wr.ownsRow (B1 + 2) 69 3 (.slice y1.G d.g.length y1.gc) d.g.length (cev d.g) ∧ wr.ownsRow (B1 + 2) 69 3 (.slice y1.P d.p.length y1.pc) d.p.length (cev d.p) ∧
  wr.ownsRow (B1 + 2) 52 8 (.slice y1.A d.s.length y1.c) d.s.length (cem (T ++ R)) ∧ (∀ z ∈ T, Wz wr (B1 + 2) z) ∧ (T ++ R).map ze = d.s ∧ B1 + 2 ≤ wr.heap.size
section
variable {w wr w' : World} {B1 : Nat} {y1 : Ma} {d : Md} {T R : List Me}
theorem Cp8.call (h : Cp8 w B1 y1 d T R wr) (hb : Below wr.heap.size wr w') : Cp8 w B1 y1 d T R w' := by
  obtain ⟨h1, h2, h3, h4, h5, h6, h7, h8, h9⟩ := h
  exact ⟨h1.trans (hb.mono (by omega)), h2.keep hb, ⟨h3.1.keep hb, h3.2.keep hb⟩, own_below h4 hb (Nat.le_refl _), own_below h5 hb (Nat.le_refl _), own_below h6 hb (Nat.le_refl _), fun z hz => (h7 z hz).keep hb, h8, Nat.le_trans h9 hb.size⟩
theorem Cp8.put {z z' : Me} {g : Nat} (h : Cp8 w B1 y1 d T (z :: R) wr) (hg : y1.A = some ⟨g, 0, none⟩) (hz : ze z' = ze z) (hw : Wz wr (B1 + 2) z') : Cp8 w B1 y1 d (T ++ [z']) R (st8 wr g (T.length * 8) z') := by
  obtain ⟨h1, h2, h3, h4, h5, h6, h7, h8, h9⟩ := h
  rw [hg] at h6
  obtain ⟨⟨k, hk⟩, hgB⟩ := own_bk h6
  have key : ∀ v : World, Bk v g 52 k → ∀ j u, Bk (v.setCell ⟨g, j, none⟩ u) g 52 k := fun v hv j u => hv.set g j u
  refine ⟨?_, ?_, ?_, ?_, ?_, ?_, ?_, ?_, ?_⟩
  · exact st8_keep (p := fun v => Below B1 w v) h1 (fun v j u hv => hv.setCell (show B1 ≤ g by omega) u) _ _
  · exact st8_keep (p := fun v => Db v B1 y1 d) h2 (fun v j u hv => hv.other (show g ≠ B1 by omega) u) _ _
  · exact ⟨st8_keep (p := fun v => Mf v (B1 + 1)) h3.1 (fun v j u hv => hv.set _ _) _ _, st8_keep (p := fun v => Db v (B1 + 1) Ma.zero Md.zero) h3.2 (fun v j u hv => hv.other (show g ≠ B1 + 1 by omega) u) _ _⟩
  · exact (st8_keep (p := fun v => v.ownsRow (B1 + 2) 69 3 (.slice y1.G d.g.length y1.gc) d.g.length (cev d.g) ∧ Bk v g 52 k) ⟨h4, hk⟩ (fun v j u hv => ⟨own_tag hv.1 hv.2 (by decide) j u, key v hv.2 j u⟩) _ _).1
  · exact (st8_keep (p := fun v => v.ownsRow (B1 + 2) 69 3 (.slice y1.P d.p.length y1.pc) d.p.length (cev d.p) ∧ Bk v g 52 k) ⟨h5, hk⟩ (fun v j u hv => ⟨own_tag hv.1 hv.2 (by decide) j u, key v hv.2 j u⟩) _ _).1
  · rw [hg]
    exact st8_own h6 z'
  · intro t ht
    have h0 : Wz wr (B1 + 2) t := by
      rcases List.mem_append.1 ht with ht | ht
      · exact h7 t ht
      · rw [List.mem_singleton.1 ht]; exact hw
    exact (st8_keep (p := fun v => Wz v (B1 + 2) t ∧ Bk v g 52 k) ⟨h0, hk⟩ (fun v j u hv => ⟨hv.1.tag hv.2 j u, key v hv.2 j u⟩) _ _).1
  · rw [← h8, List.append_assoc]
    simp only [List.map_append, List.map_cons, List.singleton_append, hz]
  · exact st8_keep (p := fun v => B1 + 2 ≤ v.heap.size) h9 (fun v j u hv => by simpa using hv) _ _
end
theorem row_at {w : World} {base g cap n j : Nat} {T R : List Me} {z : Me} (h : w.ownsRow base 52 8 (.slice (some ⟨g, 0, none⟩) n cap) n (cem (T ++ z :: R))) (hT : T.length = j) (hn : n = (T ++ z :: R).length) :
    (∀ i u, i < 8 → (ce8 z)[i]? = some u → w.cell? ⟨g, j * 8 + i, none⟩ = some u) ∧ ∀ i, i < 8 → w.frozen? ⟨g, j * 8 + i, none⟩ = false := by
  subst hT
  refine ⟨fun i u hi hu => ?_, fun i hi => h.frozenAt _⟩
  have e : (T ++ z :: R)[T.length]? = some z := by simp
  have hl : T.length * 8 + i < n * 8 := by rw [hn]; simp; omega
  rw [h.cellAt (T.length * 8 + i) hl, cem_at e i hi]
  exact hu
theorem Db.set3 {w : World} {B : Nat} {y : Ma} {d : Md} (h : Db w B y d) (A1 A2 A3 : Option Addr) (c1 c2 c3 : Nat) (Z : List Me) : Db (((w.setCell ⟨B, 0, none⟩ (.slice A1 d.g.length c1)).setCell ⟨B, 1, none⟩ (.slice A2 d.p.length c2)).setCell ⟨B, 2, none⟩ (.slice A3 d.s.length c3)) B ⟨A1, c1, A2, c2, A3, c3, Z⟩ d := by
  obtain ⟨h0, h1, h2, h3, h4⟩ := h
  refine ⟨by simpa using h0, ?_, ?_, ?_, ?_⟩ <;> simp [go_sem, h1, h2, h3, h4]
theorem put4_ownN {w : World} {N B e size n : Nat} {v : Value} {xs : List Value} (h : w.ownsRow N e size v n xs) (hB : B < N) (y : Ma) (d : Md) : (put4 w B y d).ownsRow N e size v n xs :=
  ownsRow_setCell_below (ownsRow_setCell_below (ownsRow_setCell_below (ownsRow_setCell_below h hB _) hB _) hB _) hB _
theorem Wz.put4 {w : World} {lo B : Nat} {z : Me} (h : Wz w lo z) (hB : B < lo) (y : Ma) (d : Md) : Wz (put4 w B y d) lo z := ⟨h.1, put4_ownN h.2.1 hB y d, put4_ownN h.2.2.1 hB y d, put4_ownN h.2.2.2 hB y d⟩
theorem size_put4 (w : World) (B : Nat) (y : Ma) (d : Md) : (put4 w B y d).heap.size = w.heap.size := by simp [put4]
/-- Copy's end. -/
theorem Cp8.fin {w wr : World} {B1 : Nat} {y1 : Ma} {d : Md} {T : List Me} (h : Cp8 w B1 y1 d T [] wr) (hB : w.heap.size = B1) (hg : ∀ x ∈ d.g, VlOk x) (hp : ∀ x ∈ d.p, VlOk x) (hi : -9223372036854775808 ≤ d.i ∧ d.i ≤ 9223372036854775807) :
    Db (put4 wr (B1 + 1) y1 d) (B1 + 1) { y1 with Z := T } d ∧ Hq (put4 wr (B1 + 1) y1 d) { y1 with Z := T } d ∧ Ow (put4 wr (B1 + 1) y1 d) w.heap.size (put4 wr (B1 + 1) y1 d).heap.size { y1 with Z := T } d ∧ Below w.heap.size w (put4 wr (B1 + 1) y1 d) := by
  obtain ⟨h1, h2, h3, h4, h5, h6, h7, h8, h9⟩ := h
  rw [List.append_nil] at h6 h8
  have k4 := put4_ownN h4 (show B1 + 1 < B1 + 2 by omega) y1 d
  have k5 := put4_ownN h5 (show B1 + 1 < B1 + 2 by omega) y1 d
  have k6 := put4_ownN h6 (show B1 + 1 < B1 + 2 by omega) y1 d
  have k7 : ∀ z ∈ T, Wz (put4 wr (B1 + 1) y1 d) (B1 + 2) z := fun z hz => (h7 z hz).put4 (by omega) y1 d
  refine ⟨put4_db h3.2 y1 d, ⟨(Rv.of_own k4 hg).1, (Rv.of_own k5 hp).1, (Rm.of_own k6 (fun z hz => (k7 z hz).ok)).1, h8, hi⟩, ⟨Rs.of_own k4 (by omega) (Nat.le_refl _), Rs.of_own k5 (by omega) (Nat.le_refl _), Rs.of_own k6 (by omega) (Nat.le_refl _), fun z hz => (k7 z hz).ow (by omega) (Nat.le_refl _)⟩, ?_⟩
  rw [hB]
  exact put4_below h1 (by omega) y1 d
theorem Mb.new3 {w : World} {B : Nat} {x : Mc} {m : Mh} (h : Mb w B x m) (A1 A2 A3 : Option Addr) (c1 c2 c3 : Nat) : Mb (((w.setCell ⟨B, 0, none⟩ (.slice A1 m.a.length c1)).setCell ⟨B, 1, none⟩ (.slice A2 m.l.length c2)).setCell ⟨B, 7, none⟩ (.slice A3 x.k c3)) B ⟨A1, c1, A2, c2, A3, x.k, c3⟩ m := by
  obtain ⟨h0, h1, h2, h3, h4, h5, h6, h7, h8⟩ := h
  refine ⟨by simpa using h0, ?_, ?_, ?_, ?_, ?_, ?_, ?_, ?_⟩ <;> simp [go_sem, h1, h2, h3, h4, h5, h6, h7, h8]
theorem Mh.same_ze (x x' : Mc) (m : Mh) (k : List Ins) : ze ⟨x', m, k⟩ = ze ⟨x, m, k⟩ := rfl
abbrev fOk (z : Me) : Fct := ⟨fun w => z.ok w, fun _ _ h hb => h.keep hb⟩
theorem wz_new {wr wb4 wb5 wb6 : World} {Tb B2 : Nat} {x : Mc} {m : Mh} {k : List Ins} {A4 A5 A6 : Option Addr} {c4 c5 c6 : Nat} {L : List Fct} (h1 : Byt m.a ∧ Byt m.l ∧ m.nums ∧ (∀ x ∈ k, InOk x)) (h2 : k.length = x.k) (h3 : Hid (wr.heap.size = Tb)) (SY : Hid (Sx wr wb6 L))
    (o4 : wb4.ownsRow (Tb + 1) 5 1 (.slice A4 m.a.length c4) m.a.length (cel m.a)) (o5 : wb5.ownsRow (Tb + 1) 5 1 (.slice A5 m.l.length c5) m.l.length (cel m.l)) (o6 : wb6.ownsRow (Tb + 1) 57 3 (.slice A6 x.k c6) x.k (cei k)) (b5 : Below wb4.heap.size wb4 wb5) (b6 : Below wb5.heap.size wb5 wb6) (hT : B2 ≤ Tb) :
    Hid (Wz (((wb6.setCell ⟨Tb, 0, none⟩ (.slice A4 m.a.length c4)).setCell ⟨Tb, 1, none⟩ (.slice A5 m.l.length c5)).setCell ⟨Tb, 7, none⟩ (.slice A6 x.k c6)) B2 ⟨⟨A4, c4, A5, c5, A6, x.k, c6⟩, m, k⟩) := by
  have lt : ∀ i, (⟨Tb, i, none⟩ : Addr).block < Tb + 1 := fun i => by show Tb < Tb + 1; omega
  have k4 := own_below (own_below o4 b5 (Nat.le_refl _)) b6 (Nat.le_refl _)
  have k5 := own_below o5 b6 (Nat.le_refl _)
  refine ⟨⟨h1.1, h1.2.1, h1.2.2.1, h1.2.2.2, h2⟩, ?_, ?_, ?_⟩
  · exact own_base (ownsRow_setCell_below (ownsRow_setCell_below (ownsRow_setCell_below k4 (lt 0) _) (lt 1) _) (lt 7) _) (by omega)
  · exact own_base (ownsRow_setCell_below (ownsRow_setCell_below (ownsRow_setCell_below k5 (lt 0) _) (lt 1) _) (lt 7) _) (by omega)
  · exact own_base (ownsRow_setCell_below (ownsRow_setCell_below (ownsRow_setCell_below o6 (lt 0) _) (lt 1) _) (lt 7) _) (by omega)
end Go.Proofs.Ytimjnmkfbdijeaa
