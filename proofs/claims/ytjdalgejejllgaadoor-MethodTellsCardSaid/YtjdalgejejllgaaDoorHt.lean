/-
  A region that draws its order: if each operation, whenever what it waits for has come up, leaves in its slot what a predicate of that slot says, and nothing undoes such a predicate, then behind the region, in whatever order, each slot bears what its predicate says. No program is named here.
-/
import Derived.Test.YtjdalgejejllgaaDoorLa
namespace Go.Proofs.YtjdalgejejllgaaDoor
open Go.RowKit

section
variable {P : Program} {md : Region.Mode} {ops : Array Oper} {Q : Exit → Act → World → Prop}

/-- The frame is as it was but for the region's own slots. -/
def FrameAs (ops : Array Oper) (a0 a : Act) : Prop := a.tmps.size = a0.tmps.size ∧ a.defers = a0.defers ∧ ∀ s, (∀ (i : Nat) o, ops[i]? = some o → o.dst ≠ some s) → a.tmps.getD s undef = a0.tmps.getD s undef
theorem put_getD_same {a : Act} {s : Nat} (v : Value) (h : s < a.tmps.size) : (a.put (some s) v).tmps.getD s undef = v := by
  simp [Act.put, Array.getD, h]
theorem put_getD_ne {a : Act} {d : Option Nat} {s : Nat} (v : Value) (h : d ≠ some s) : (a.put d v).tmps.getD s undef = a.tmps.getD s undef := by
  cases d with
  | none => rfl
  | some k =>
    have hne : k ≠ s := fun e => h (by rw [e])
    simp [Act.put, Array.getElem?_setIfInBounds_ne hne]
theorem put_size {a : Act} {d : Option Nat} (v : Value) : (a.put d v).tmps.size = a.tmps.size := by
  cases d <;> simp [Act.put]
theorem put_defers {a : Act} {d : Option Nat} (v : Value) : (a.put d v).defers = a.defers := by
  cases d <;> simp [Act.put]
theorem FrameAs.put {a0 a : Act} (h : FrameAs ops a0 a) {i : Nat} {o : Oper} (ho : ops[i]? = some o) (v : Value) : FrameAs ops a0 (a.put o.dst v) :=
  ⟨(put_size v).trans h.1, (put_defers v).trans h.2.1, fun s hs => (put_getD_ne v (hs i o ho)).trans (h.2.2 s hs)⟩
/-- What the slots of the operations that have come up bear. -/
def Typed (ops : Array Oper) (T : Nat → World → Value → Prop) (listed : Array Bool) (a : Act) (w : World) : Prop :=
  ∀ (i : Nat) o s, ops[i]? = some o → listed.getD i false = true → o.dst = some s → T s w (a.tmps.getD s undef)
theorem wpAny_typed (T : Nat → World → Value → Prop) (I : World → Prop) (a0 : Act)
    (hT : ∀ s w w' v, I w → Below w.heap.size w w' → T s w v → T s w' v)
    (hd : ∀ (i j : Nat) o o' s, ops[i]? = some o → ops[j]? = some o' → o.dst = some s → o'.dst = some s → i = j)
    (hs : ∀ (i : Nat) o s, ops[i]? = some o → o.dst = some s → s < a0.tmps.size)
    (hac : ∀ (i : Nat) o e, ops[i]? = some o → e ∈ o.after → Region.binds md e = true → e.on < i)
    (hob : ∀ (i : Nat) o, ops[i]? = some o → o.guard = none ∧ ∀ a w, I w → FrameAs ops a0 a → (∀ e ∈ o.after, Region.binds md e = true → ∀ o' s, ops[e.on]? = some o' → o'.dst = some s → T s w (a.tmps.getD s undef)) →
      ∀ K : Act → World → Prop, (∀ v w', I w' → Below w.heap.size w w' → (∀ s, o.dst = some s → T s w' v) → K (a.put o.dst v) w') → o.wp P a w K Q)
    (hQ : ∀ a w, I w → FrameAs ops a0 a → (∀ (i : Nat) o s, ops[i]? = some o → o.dst = some s → T s w (a.tmps.getD s undef)) → Q .normal a w) :
    ∀ (fuel : Nat) (listed : Array Bool) (a : Act) (w : World), listed.size = ops.size → listed.toList.countP (fun b => !b) = fuel → I w → FrameAs ops a0 a → Typed ops T listed a w → wpAny P md ops Q fuel listed a w := by
  have ready_all : ∀ (listed : Array Bool), listed.size = ops.size → Region.ready md ops listed = [] → ∀ i : Nat, i < ops.size → listed.getD i false = true := by
    intro listed hls hr i
    induction i using Nat.strongRecOn with
    | ind i ih =>
      intro hi
      cases hl : listed.getD i false with
      | true => rfl
      | false =>
        exfalso
        have hil : i < listed.size := by omega
        have : i ∈ Region.ready md ops listed := by
          refine mem_ready.2 ⟨by simp [Array.getD, hil] at hl ⊢; exact hl, ops[i], Array.getElem?_eq_getElem hi, fun e he hb => ?_⟩
          have := hac i ops[i] e (Array.getElem?_eq_getElem hi) he hb
          exact ih e.on this (by omega)
        rw [hr] at this
        cases this
  have fin : ∀ (listed : Array Bool) (a : Act) (w : World), listed.size = ops.size → Region.ready md ops listed = [] → I w → FrameAs ops a0 a → Typed ops T listed a w → Q .normal a w := by
    intro listed a w hls hr hI hF hty
    exact hQ a w hI hF fun i o s ho hds => hty i o s ho (ready_all listed hls hr i (Array.getElem?_eq_some_iff.1 ho).1) hds
  intro fuel
  induction fuel with
  | zero =>
    intro listed a w hls hc hI hF hty
    have hr : Region.ready md ops listed = [] := by
      rw [List.eq_nil_iff_forall_not_mem]
      intro i hi
      obtain ⟨hun, o, ho, _⟩ := mem_ready.1 hi
      have hlt : i < listed.size := by have := (Array.getElem?_eq_some_iff.1 ho).1; omega
      have := List.countP_eq_zero.1 hc listed[i] (by simp)
      simp [Array.getD, hlt] at hun this
      rw [hun] at this
      cases this
    exact ⟨hr, fin listed a w hls hr hI hF hty⟩
  | succ fuel ih =>
    intro listed a w hls hc hI hF hty
    refine ⟨fun hr => fin listed a w hls hr hI hF hty, fun i hi => ?_⟩
    obtain ⟨hun, o, ho, hall⟩ := mem_ready.1 hi
    have hlt : i < listed.size := by have := (Array.getElem?_eq_some_iff.1 ho).1; omega
    obtain ⟨hg, hstep⟩ := hob i o ho
    have hw : Region.wanted o (yielded ops a.tmps) = true := by simp [Region.wanted, hg]
    unfold wpOp
    simp only [ho, hw, if_true]
    refine .inl (hstep a w hI hF (fun e he hb o' s ho' hds => hty e.on o' s ho' (hall e he hb) hds) _ fun v w' hI' hb' hv => ?_)
    refine ih _ _ _ (by simpa using hls) ?_ hI' (hF.put ho v) ?_
    · rw [Array.toList_setIfInBounds, List.countP_set (by simpa using hlt), hc]
      have hf : listed.toList[i]'(by simpa using hlt) = false := by
        simp [Array.getD, hlt] at hun
        simpa using hun
      rw [hf]
      simp
    · intro j oj s hj hlj hds
      by_cases hji : j = i
      · subst hji
        obtain rfl : o = oj := Option.some.inj (ho.symm.trans hj)
        rw [hds, put_getD_same v (by rw [hF.1]; exact hs j o s ho hds)]
        exact hv s hds
      · have hne : o.dst ≠ some s := fun e => hji (hd j i oj o s hj ho hds e)
        rw [put_getD_ne v hne]
        refine hT s w w' _ hI hb' (hty j oj s hj ?_ hds)
        rw [getD_set_ne false (Ne.symm hji)] at hlj
        exact hlj
/-- One operation: whenever the frame's slots F are as they were and those of D bear what they should, it leaves in its own slot what it should. -/
def StepOk (P : Program) (Q : Exit → Act → World → Prop) (T : Nat → World → Value → Prop) (I : World → Prop) (a0 : Act) (F : List Nat) (o : Oper) (D : List Nat) : Prop :=
  ∀ a w, I w → (∀ s ∈ F, a.tmps.getD s undef = a0.tmps.getD s undef) → (∀ s ∈ D, T s w (a.tmps.getD s undef)) → ∀ K : Act → World → Prop, (∀ v w', I w' → Below w.heap.size w w' → (∀ s, o.dst = some s → T s w' v) → K (a.put o.dst v) w') → o.wp P a w K Q
def StepsOk (P : Program) (Q : Exit → Act → World → Prop) (T : Nat → World → Value → Prop) (I : World → Prop) (a0 : Act) (F : List Nat) : List Oper → List (List Nat) → Prop
  | [], _ => True
  | o :: r, D => StepOk P Q T I a0 F o (D.headD []) ∧ StepsOk P Q T I a0 F r D.tail
theorem StepsOk.at_ {P : Program} {Q : Exit → Act → World → Prop} {T : Nat → World → Value → Prop} {I : World → Prop} {a0 : Act} {F : List Nat} : ∀ {L : List Oper} {D : List (List Nat)}, StepsOk P Q T I a0 F L D → ∀ (i : Nat) o, L[i]? = some o → StepOk P Q T I a0 F o (D[i]?.getD [])
  | [], _, _, i, o, h => by simp at h
  | x :: r, D, h, 0, o, ho => by
    obtain rfl : x = o := by simpa using ho
    have := h.1
    cases D <;> simpa using this
  | x :: r, D, h, i + 1, o, ho => by
    have := h.2.at_ i o (by simpa using ho)
    cases D <;> simpa using this
/-- What is asked of the operations' looks: no guards, slots of their own within the frame, what they wait for stands ahead of them, and D and F are what they say. -/
def regionB (md : Region.Mode) (ops : List Oper) (D : List (List Nat)) (F : List Nat) (n : Nat) : Bool :=
  (List.range ops.length).all fun i => match ops[i]? with
    | none => true
    | some o => o.guard.isNone && (match o.dst with | none => true | some s => decide (s < n) && !F.contains s && (List.range ops.length).all fun j => j == i || (match ops[j]? with | none => true | some o' => o'.dst != some s)) &&
      o.after.toList.all (fun e => !Region.binds md e || decide (e.on < i)) &&
      (D[i]?.getD []).all fun s => o.after.toList.any fun e => Region.binds md e && (match ops[e.on]? with | none => false | some o' => o'.dst == some s)
theorem wp_region_typed {id : Nat} {L : List Oper} (T : Nat → World → Value → Prop) (I : World → Prop) (D : List (List Nat)) (F : List Nat) {a : Act} {w : World} (hm : P.follows .mixedOrders = true)
    (hB : regionB .any L D F a.tmps.size = true) (hT : ∀ s w w' v, I w → Below w.heap.size w w' → T s w v → T s w' v) (hI : I w.drew) (hst : StepsOk P Q T I a F L D)
    (hQ : ∀ a' w', I w' → a'.tmps.size = a.tmps.size → a'.defers = a.defers → (∀ s, (∀ o ∈ L, o.dst ≠ some s) → a'.tmps.getD s undef = a.tmps.getD s undef) → (∀ o ∈ L, ∀ s, o.dst = some s → T s w' (a'.tmps.getD s undef)) → Q .normal a' w') :
    (Code.region id L.toArray true).wp P Q a w := by
  have hB' := List.all_eq_true.1 hB
  have at_ : ∀ (i : Nat) o, L.toArray[i]? = some o → L[i]? = some o ∧ i < L.length := fun i o h => by
    have h' : L[i]? = some o := by simpa using h
    exact ⟨h', (List.getElem?_eq_some_iff.1 h').1⟩
  have ch : ∀ (i : Nat) o, L[i]? = some o → i < L.length → o.guard = none ∧ (∀ s, o.dst = some s → s < a.tmps.size ∧ s ∉ F ∧ ∀ (j : Nat) o', L[j]? = some o' → o'.dst = some s → j = i) ∧ (∀ e ∈ o.after, Region.binds .any e = true → e.on < i) ∧
      ∀ s ∈ D[i]?.getD [], ∃ e ∈ o.after, Region.binds .any e = true ∧ ∃ o', L[e.on]? = some o' ∧ o'.dst = some s := by
    intro i o ho hi
    have h := hB' i (List.mem_range.2 hi)
    simp only [ho, Bool.and_eq_true] at h
    obtain ⟨⟨⟨h1, h2⟩, h3⟩, h4⟩ := h
    refine ⟨by simpa using h1, fun s hs => ?_, fun e he hb => ?_, fun s hs => ?_⟩
    · simp only [hs, Bool.and_eq_true, decide_eq_true_eq] at h2
      refine ⟨h2.1.1, by simpa using h2.1.2, fun j o' hj hd => ?_⟩
      have := List.all_eq_true.1 h2.2 j (List.mem_range.2 (List.getElem?_eq_some_iff.1 hj).1)
      simp [hj, hd] at this
      exact this
    · have := List.all_eq_true.1 h3 e (by simpa using he)
      simpa [hb] using this
    · have := List.all_eq_true.1 h4 s hs
      obtain ⟨e, he, h5⟩ := List.any_eq_true.1 this
      simp only [Bool.and_eq_true] at h5
      refine ⟨e, by simpa using he, h5.1, ?_⟩
      cases hx : L[e.on]? with
      | none => rw [hx] at h5; simp at h5
      | some o' => rw [hx] at h5; exact ⟨o', rfl, by simpa using h5.2⟩
  refine wp_region_any hm (wpAny_typed T I a hT ?_ ?_ ?_ ?_ ?_ _ _ _ _ (by simp) (by simp [List.countP_replicate]) hI ⟨rfl, rfl, fun _ _ => rfl⟩ ?_)
  · intro i j o o' s hi hj h1 h2
    obtain ⟨hi', hil⟩ := at_ i o hi
    obtain ⟨hj', hjl⟩ := at_ j o' hj
    exact ((ch j o' hj' hjl).2.1 s h2).2.2 i o hi' h1
  · intro i o s hi h1
    obtain ⟨hi', hil⟩ := at_ i o hi
    exact ((ch i o hi' hil).2.1 s h1).1
  · intro i o e hi he hb
    obtain ⟨hi', hil⟩ := at_ i o hi
    exact (ch i o hi' hil).2.2.1 e he hb
  · intro i o hi
    obtain ⟨hi', hil⟩ := at_ i o hi
    refine ⟨(ch i o hi' hil).1, fun a' w' hI' hF hD K hK => hst.at_ i o hi' a' w' hI' (fun s hs => hF.2.2 s fun j o' hj hd => ?_) (fun s hs => ?_) K hK⟩
    · obtain ⟨hj', hjl⟩ := at_ j o' hj
      exact ((ch j o' hj' hjl).2.1 s hd).2.1 hs
    · obtain ⟨e, he, hb, o', ho', hd⟩ := (ch i o hi' hil).2.2.2 s hs
      exact hD e he hb o' s (by simpa using ho') hd
  · intro a' w' hI' hF hty
    refine hQ a' w' hI' hF.1 hF.2.1 (fun s hs => hF.2.2 s fun i o hi => ?_) (fun o ho s hd => ?_)
    · exact hs o (List.mem_of_getElem? (at_ i o hi).1)
    · obtain ⟨i, hi⟩ := List.mem_iff_getElem?.1 ho
      exact hty i o s (by simpa using hi) hd
  · intro i o s hi hl
    have h0 : (Array.replicate L.toArray.size false).getD i false = false := by simp only [Array.getD]; split <;> simp
    rw [h0] at hl
    cases hl
end
end Go.Proofs.YtjdalgejejllgaaDoor
