/-
  Layer 13 on lists alone: which methods store, which are pure; rounds come to an end.
-/
import Derived.Test.YtimjnmkfbdijeaaLea
namespace Go.Proofs.Ytimjnmkfbdijeaa
open Go.RowKit
set_option maxRecDepth 100000
set_option linter.unusedVariables false

/-- Does code store? -/
def st13 (L : List Ins) : Bool := L.any fun x => x.1 == 5
/-- k stores, or leads to one that does. -/
def Tn13 (e : Nat → Nat → Bool) (n : Nat) (s : Nat → Bool) (k : Nat) : Prop := s k = true ∨ ∃ j, Le11 e n k j ∧ s j = true
section
variable {e : Nat → Nat → Bool} {n : Nat} {s : Nat → Bool}
theorem Tn13.call {k i : Nat} (hk : k < n) (hi : i < n) (he : e k i = true) (h : Tn13 e n s i) : Tn13 e n s k := by
  rcases h with h | ⟨j, h1, h2⟩
  · exact .inr ⟨i, .one hk hi he, h⟩
  · exact .inr ⟨j, .more hk hi he h1, h2⟩
/-- What is closed, and holds none that stores, holds pure ones alone. -/
theorem tn13_no {P : Nat → Prop} (h1 : ∀ k, k < n → P k → s k = false) (h2 : ∀ k i, k < n → i < n → e k i = true → P k → P i) {k : Nat} (hk : k < n) (h : P k) : ¬ Tn13 e n s k := by
  have key : ∀ {k j}, Le11 e n k j → P k → P j := by
    intro k j hl
    induction hl with
    | one a b c => exact h2 _ _ a b c
    | more a b c _ ih => exact fun hp => ih (h2 _ _ a b c hp)
  rintro (h3 | ⟨j, h3, h4⟩)
  · rw [h1 k hk h] at h3; cases h3
  · rw [h1 j h3.lt.2 (key h3 h)] at h4; cases h4
/-- Element k, or false. -/
def bt13 (o : List Bool) (k : Nat) : Bool := o[k]?.getD false
def an13 (e : Nat → Nat → Bool) (n : Nat) (o : List Bool) (k : Nat) : Bool := bt13 o k && (List.range n).all fun i => !e k i || bt13 o i
def tk13 (e : Nat → Nat → Bool) (n : Nat) (o : List Bool) (k : Nat) : List Bool := o.set k (an13 e n o k)
/-- A turn, up to the method m. -/
def tu13 (e : Nat → Nat → Bool) (n : Nat) (o : List Bool) (m : Nat) : List Bool := (List.range m).foldl (tk13 e n) o
theorem tu13_succ (o : List Bool) (m : Nat) : tu13 e n o (m + 1) = tk13 e n (tu13 e n o m) m := by
  unfold tu13
  rw [List.range_succ, List.foldl_append]
  rfl
theorem tk13_len (o : List Bool) (k : Nat) : (tk13 e n o k).length = o.length := by simp [tk13]
theorem tu13_len (o : List Bool) : ∀ m, (tu13 e n o m).length = o.length
  | 0 => rfl
  | m + 1 => by rw [tu13_succ, tk13_len, tu13_len o m]
theorem bt13_set {o : List Bool} {k : Nat} {b : Bool} (j : Nat) (hk : k < o.length) : bt13 (o.set k b) j = if j = k then b else bt13 o j := by
  unfold bt13
  by_cases h : j = k
  · subst h
    rw [List.getElem?_set_self hk, if_pos rfl]
    rfl
  · rw [List.getElem?_set_ne (fun e => h e.symm), if_neg h]
theorem bt13_out {o : List Bool} {k : Nat} (hk : o.length ≤ k) : bt13 o k = false := by
  unfold bt13
  rw [List.getElem?_eq_none hk]
  rfl
/-- A turn only takes away. -/
theorem tk13_le {o : List Bool} {k j : Nat} (h : bt13 (tk13 e n o k) j = true) : bt13 o j = true := by
  by_cases hk : k < o.length
  · unfold tk13 at h
    rw [bt13_set j hk] at h
    split at h
    · rename_i hj
      subst hj
      unfold an13 at h
      rw [Bool.and_eq_true] at h
      exact h.1
    · exact h
  · rwa [tk13, List.set_eq_of_length_le (by omega)] at h
theorem tu13_le {o : List Bool} {j : Nat} : ∀ m, bt13 (tu13 e n o m) j = true → bt13 o j = true
  | 0, h => h
  | m + 1, h => tu13_le m (tk13_le (by rw [← tu13_succ]; exact h))
theorem bt13_ext {o p : List Bool} (hl : o.length = p.length) (h : ∀ j, bt13 o j = bt13 p j) : o = p := by
  apply List.ext_getElem hl
  intro j h1 h2
  have := h j
  unfold bt13 at this
  rw [List.getElem?_eq_getElem h1, List.getElem?_eq_getElem h2] at this
  exact this
/-- Where a turn changes nothing, what is left is closed. -/
theorem tu13_fix {o : List Bool} (h : tu13 e n o n = o) (ho : o.length = n) {k : Nat} (hk : k < n) : an13 e n o k = bt13 o k := by
  have key : ∀ m, m ≤ n → tu13 e n o m = o := by
    intro m hm
    apply bt13_ext (tu13_len o m)
    intro j
    cases hb : bt13 o j with
    | false =>
      cases hc : bt13 (tu13 e n o m) j with
      | false => rfl
      | true => rw [tu13_le m hc] at hb; cases hb
    | true =>
      have h2 : ∀ q, m + q ≤ n → bt13 (tu13 e n o (m + q)) j = true → bt13 (tu13 e n o m) j = true := by
        intro q
        induction q with
        | zero => exact fun _ h => h
        | succ q ih =>
          intro hq h
          rw [← Nat.add_assoc, tu13_succ] at h
          exact ih (by omega) (tk13_le h)
      refine h2 (n - m) (by omega) ?_
      rw [show m + (n - m) = n by omega, h]
      exact hb
  have h1 := key (k + 1) (by omega)
  rw [tu13_succ, key k (by omega)] at h1
  have h2 := congrArg (fun l => bt13 l k) h1
  simp only [tk13] at h2
  rw [bt13_set k (by omega), if_pos rfl] at h2
  exact h2
/-- What is taken away isn't pure. -/
theorem tk13_tn {o : List Bool} (ho : o.length = n) (h : ∀ j, j < n → bt13 o j = false → Tn13 e n s j) {k : Nat} (hk : k < n) : ∀ j, j < n → bt13 (tk13 e n o k) j = false → Tn13 e n s j := by
  intro j hj hb
  unfold tk13 at hb
  rw [bt13_set j (by omega)] at hb
  split at hb
  · rename_i hjk
    subst hjk
    unfold an13 at hb
    rw [Bool.and_eq_false_iff] at hb
    rcases hb with hb | hb
    · exact h j hj hb
    · rw [List.all_eq_false] at hb
      obtain ⟨i, hi, h2⟩ := hb
      rw [List.mem_range] at hi
      simp only [Bool.or_eq_true, Bool.not_eq_true', not_or, Bool.not_eq_false, Bool.not_eq_true] at h2
      exact Tn13.call hj hi h2.1 (h i hi h2.2)
  · exact h j hj hb
theorem tu13_tn {o : List Bool} (ho : o.length = n) (h : ∀ j, j < n → bt13 o j = false → Tn13 e n s j) : ∀ m, m ≤ n → ∀ j, j < n → bt13 (tu13 e n o m) j = false → Tn13 e n s j
  | 0, _ => h
  | m + 1, hm => by
    rw [tu13_succ]
    exact tk13_tn (by rw [tu13_len]; exact ho) (tu13_tn ho h m (by omega)) (by omega)
def ct13 (o : List Bool) : Nat := (o.filter id).length
theorem ct13_set : ∀ {o : List Bool} {k : Nat} {b : Bool}, (b = true → bt13 o k = true) → (o.set k b = o ∨ ct13 (o.set k b) < ct13 o)
  | [], k, b, _ => .inl (by simp)
  | x :: o, 0, b, h => by
    have h : b = true → x = true := h
    cases b <;> cases x
    · exact .inl rfl
    · right; simp [ct13]
    · have := h rfl; cases this
    · exact .inl rfl
  | x :: o, k + 1, b, h => by
    rcases ct13_set (o := o) (k := k) (b := b) h with h1 | h1
    · left; rw [List.set_cons_succ, h1]
    · right
      unfold ct13 at h1 ⊢
      rw [List.set_cons_succ, List.filter_cons, List.filter_cons]
      split
      · rw [List.length_cons, List.length_cons]; omega
      · exact h1
theorem tk13_ct {o : List Bool} (k : Nat) : tk13 e n o k = o ∨ ct13 (tk13 e n o k) < ct13 o := ct13_set fun h => by
  unfold an13 at h
  rw [Bool.and_eq_true] at h
  exact h.1
theorem tu13_ct {o : List Bool} : ∀ m, tu13 e n o m = o ∨ ct13 (tu13 e n o m) < ct13 o
  | 0 => .inl rfl
  | m + 1 => by
    rw [tu13_succ]
    rcases tk13_ct (e := e) (n := n) (o := tu13 e n o m) m with h1 | h1
    · rw [h1]; exact tu13_ct m
    · rcases tu13_ct m with h2 | h2
      · rw [h2] at h1 ⊢; exact .inr h1
      · exact .inr (by omega)
/-- So many turns. -/
def tt13 (e : Nat → Nat → Bool) (n : Nat) (o : List Bool) : Nat → List Bool
  | 0 => o
  | t + 1 => tu13 e n (tt13 e n o t) n
theorem tt13_len (o : List Bool) : ∀ t, (tt13 e n o t).length = o.length
  | 0 => rfl
  | t + 1 => by rw [tt13, tu13_len, tt13_len o t]
theorem tt13_ct (o : List Bool) : ∀ t, tu13 e n (tt13 e n o t) n = tt13 e n o t ∨ ct13 (tt13 e n o t) + t ≤ ct13 o
  | 0 => .inr (by simp [tt13])
  | t + 1 => by
    rcases tt13_ct o t with h | h
    · left
      show tu13 e n (tu13 e n (tt13 e n o t) n) n = tu13 e n (tt13 e n o t) n
      rw [h, h]
    · rcases tu13_ct (e := e) (n := n) (o := tt13 e n o t) n with h1 | h1
      · left
        show tu13 e n (tu13 e n (tt13 e n o t) n) n = tu13 e n (tt13 e n o t) n
        rw [h1, h1]
      · right
        show ct13 (tu13 e n (tt13 e n o t) n) + (t + 1) ≤ ct13 o
        omega
theorem tt13_fix {o : List Bool} (ho : o.length = n) : tu13 e n (tt13 e n o (n + 1)) n = tt13 e n o (n + 1) := by
  rcases tt13_ct (e := e) (n := n) o (n + 1) with h | h
  · exact h
  · have : ct13 o ≤ o.length := List.length_filter_le _ _
    omega
theorem tt13_tn {o : List Bool} (ho : o.length = n) (h : ∀ j, j < n → bt13 o j = false → Tn13 e n s j) : ∀ t j, j < n → bt13 (tt13 e n o t) j = false → Tn13 e n s j
  | 0 => h
  | t + 1 => tu13_tn (by rw [tt13_len]; exact ho) (tt13_tn ho h t) n (Nat.le_refl _)
theorem tt13_le {o : List Bool} {j : Nat} : ∀ t, bt13 (tt13 e n o t) j = true → bt13 o j = true
  | 0, h => h
  | t + 1, h => tt13_le t (tu13_le n h)
/-- As many turns as there are, and one more: just the pure ones are left. -/
theorem tt13_pure {o : List Bool} (ho : o.length = n) (h0 : ∀ k, k < n → bt13 o k = !s k) {k : Nat} (hk : k < n) : bt13 (tt13 e n o (n + 1)) k = true ↔ ¬ Tn13 e n s k := by
  constructor
  · refine tn13_no (P := fun k => bt13 (tt13 e n o (n + 1)) k = true) (fun k hk h => ?_) (fun k i hk hi he h => ?_) hk
    · have := tt13_le _ h
      rw [h0 k hk] at this
      simpa using this
    · have h1 := tu13_fix (tt13_fix (e := e) ho) (by rw [tt13_len]; exact ho) hk
      rw [h, an13, Bool.and_eq_true, List.all_eq_true] at h1
      have := h1.2 i (List.mem_range.2 hi)
      simpa [he] using this
  · intro h
    cases hb : bt13 (tt13 e n o (n + 1)) k with
    | true => rfl
    | false => exact absurd (tt13_tn ho (fun j hj hb => .inl (by rw [h0 j hj] at hb; simpa using hb)) _ k hk hb) h
end
end Go.Proofs.Ytimjnmkfbdijeaa
