/-
  Ea, Eb, Ec: in one text.
-/
import Derived.Test.YtimjnmkfbdijeaaLd
import Derived.Test.YtimjnmkfbdijeaaLm
namespace Go.Proofs.Ytimjnmkfbdijeaa
set_option maxRecDepth 100000
set_option linter.unusedVariables false

/-- Could k come next behind those of o? -/
def rd11 (e : Nat → Nat → Bool) (n : Nat) (o : List Nat) (k : Nat) : Bool := !o.contains k && (List.range n).all fun j => !e k j || o.contains j
/-- The least that could. -/
def nx11 (e : Nat → Nat → Bool) (n : Nat) (o : List Nat) : Option Nat := (List.range n).find? (rd11 e n o)
/-- f steps of the order. -/
def od11 (e : Nat → Nat → Bool) (n : Nat) : Nat → List Nat → Option (List Nat)
  | 0, o => some o
  | f + 1, o => match nx11 e n o with
    | none => none
    | some k => od11 e n f (o ++ [k])
/-- The order, if calls are well-founded. -/
def or11 (e : Nat → Nat → Bool) (n : Nat) : Option (List Nat) := od11 e n n []
section
variable {e : Nat → Nat → Bool} {n : Nat}
theorem rd11_iff {o : List Nat} {k : Nat} : rd11 e n o k = true ↔ k ∉ o ∧ ∀ j, j < n → e k j = true → j ∈ o := by
  simp only [rd11, Bool.and_eq_true, Bool.not_eq_true', List.all_eq_true, List.mem_range, Bool.or_eq_true, List.contains_iff_mem, ← Bool.not_eq_true]
  constructor
  · rintro ⟨h1, h2⟩
    exact ⟨h1, fun j hj he => (h2 j hj).resolve_left (fun h => h he)⟩
  · rintro ⟨h1, h2⟩
    exact ⟨h1, fun j hj => by
      by_cases he : e k j = true
      · exact .inr (h2 j hj he)
      · exact .inl he⟩
theorem nx11_some {o : List Nat} {k : Nat} (h : nx11 e n o = some k) : k < n ∧ k ∉ o ∧ (∀ j, j < n → e k j = true → j ∈ o) ∧ ∀ i, i < k → rd11 e n o i = false := by
  unfold nx11 at h
  have h1 := List.mem_of_find?_eq_some h
  have h2 := List.find?_some h
  obtain ⟨h3, h4⟩ := rd11_iff.1 h2
  refine ⟨List.mem_range.1 h1, h3, h4, fun i hi => ?_⟩
  rw [List.find?_range_eq_some] at h
  have := h.2.2 i hi
  simpa using this
theorem nx11_none {o : List Nat} (h : nx11 e n o = none) : ∀ k, k < n → k ∉ o → ∃ j, j < n ∧ e k j = true ∧ j ∉ o := by
  intro k hk hko
  unfold nx11 at h
  rw [List.find?_eq_none] at h
  have h1 := h k (List.mem_range.2 hk)
  by_cases hx : ∃ j, j < n ∧ e k j = true ∧ j ∉ o
  · exact hx
  · exfalso
    refine h1 (rd11_iff.2 ⟨hko, fun j hj he => ?_⟩)
    by_cases hjo : j ∈ o
    · exact hjo
    · exact absurd ⟨j, hj, he, hjo⟩ hx
/-- What holds of the beginning of an order. -/
structure Ok11 (e : Nat → Nat → Bool) (n : Nat) (o : List Nat) : Prop where
  lt : ∀ k ∈ o, k < n
  nd : o.Nodup
  be : ∀ (i k : Nat), o[i]? = some k → ∀ j, j < n → e k j = true → ∃ m, m < i ∧ o[m]? = some j
theorem Ok11.nil : Ok11 e n [] := ⟨fun k hk => (by cases hk), List.nodup_nil, fun i k h => (by simp at h)⟩
theorem Ok11.snoc {o : List Nat} {k : Nat} (h : Ok11 e n o) (hk : nx11 e n o = some k) : Ok11 e n (o ++ [k]) := by
  obtain ⟨h1, h2, h3, -⟩ := nx11_some hk
  refine ⟨fun i hi => ?_, ?_, fun i x hx j hj he => ?_⟩
  · rcases List.mem_append.1 hi with hi | hi
    · exact h.lt i hi
    · rw [List.mem_singleton.1 hi]; exact h1
  · rw [List.nodup_append]
    exact ⟨h.nd, (by simp), fun a ha b hb hab => by rw [List.mem_singleton.1 hb] at hab; rw [hab] at ha; exact h2 ha⟩
  · rw [List.getElem?_append] at hx
    split at hx
    · obtain ⟨m, hm, hj2⟩ := h.be i x hx j hj he
      exact ⟨m, hm, by rw [List.getElem?_append_left (List.getElem?_eq_some_iff.1 hj2).1]; exact hj2⟩
    · rename_i hil
      have hx2 := List.mem_of_getElem? hx
      rw [List.mem_singleton] at hx2
      subst hx2
      obtain ⟨m, hm⟩ := List.getElem?_of_mem (h3 j hj he)
      have hml := (List.getElem?_eq_some_iff.1 hm).1
      exact ⟨m, by omega, by rw [List.getElem?_append_left hml]; exact hm⟩
theorem od11_ok : ∀ {f : Nat} {o o' : List Nat}, Ok11 e n o → od11 e n f o = some o' → Ok11 e n o' ∧ o'.length = o.length + f
  | 0, o, o', h, ho => by
    simp only [od11, Option.some.injEq] at ho
    subst ho
    exact ⟨h, rfl⟩
  | f + 1, o, o', h, ho => by
    rw [od11] at ho
    split at ho
    · cases ho
    · rename_i k hk
      obtain ⟨h1, h2⟩ := od11_ok (h.snoc hk) ho
      exact ⟨h1, by rw [h2, List.length_append]; simp; omega⟩
theorem or11_ok {o : List Nat} (h : or11 e n = some o) : Ok11 e n o ∧ o.length = n := by
  obtain ⟨h1, h2⟩ := od11_ok Ok11.nil h
  exact ⟨h1, by simpa using h2⟩
/-- So many different numbers below n are all of them. -/
theorem all11 : ∀ {n : Nat} {o : List Nat}, o.Nodup → (∀ k ∈ o, k < n) → o.length = n → ∀ k, k < n → k ∈ o
  | 0, o, _, _, _, k, hk => by omega
  | n + 1, o, hd, hl, hn, k, hk => by
    by_cases hm : n ∈ o
    · have h1 : (o.erase n).length = n := by rw [List.length_erase_of_mem hm]; omega
      have h2 : ∀ x ∈ o.erase n, x < n := fun x hx => by
        have h3 := hl x (List.mem_of_mem_erase hx)
        have h4 : x ≠ n := fun h => by subst h; exact (List.Nodup.mem_erase_iff hd).1 hx |>.1 rfl
        omega
      by_cases hkn : k = n
      · subst hkn; exact hm
      · exact List.mem_of_mem_erase (all11 (hd.erase n) h2 h1 k (by omega))
    · have h2 : ∀ x ∈ o, x < n := fun x hx => by
        have h3 := hl x hx
        have h4 : x ≠ n := fun h => by subst h; exact hm hx
        omega
      exfalso
      have := nodup_len h2 hd
      omega
where nodup_len : ∀ {n : Nat} {o : List Nat}, (∀ k ∈ o, k < n) → o.Nodup → o.length ≤ n
  | 0, o, hl, _ => by
    cases o with
    | nil => simp
    | cons a o => exact absurd (hl a List.mem_cons_self) (by omega)
  | n + 1, o, hl, hd => by
    by_cases hm : n ∈ o
    · have h2 : ∀ x ∈ o.erase n, x < n := fun x hx => by
        have h3 := hl x (List.mem_of_mem_erase hx)
        have h4 : x ≠ n := fun h => by subst h; exact (List.Nodup.mem_erase_iff hd).1 hx |>.1 rfl
        omega
      have := nodup_len h2 (hd.erase n)
      rw [List.length_erase_of_mem hm] at this
      omega
    · have h2 : ∀ x ∈ o, x < n := fun x hx => by
        have h3 := hl x hx
        have h4 : x ≠ n := fun h => by subst h; exact hm hx
        omega
      have := nodup_len h2 hd
      omega
/-- A rank: each call goes to a lesser one. -/
def Rk11 (e : Nat → Nat → Bool) (n : Nat) (r : Nat → Nat) : Prop := ∀ k j, k < n → j < n → e k j = true → r j < r k
theorem pick11 {r : Nat → Nat} : ∀ {l : List Nat}, l ≠ [] → ∃ k ∈ l, ∀ j ∈ l, r k ≤ r j
  | [a], _ => ⟨a, List.mem_cons_self, fun j hj => by rw [List.mem_singleton.1 hj]; exact Nat.le_refl _⟩
  | a :: b :: l, _ => by
    obtain ⟨k, hk, hm⟩ := pick11 (r := r) (l := b :: l) (by simp)
    by_cases h : r a ≤ r k
    · exact ⟨a, List.mem_cons_self, fun j hj => by
        rcases List.mem_cons.1 hj with rfl | hj
        · exact Nat.le_refl _
        · exact Nat.le_trans h (hm j hj)⟩
    · exact ⟨k, List.mem_cons_of_mem _ hk, fun j hj => by
        rcases List.mem_cons.1 hj with rfl | hj
        · omega
        · exact hm j hj⟩
/-- Where calls have a rank, there is an order. -/
theorem od11_rk {r : Nat → Nat} (hr : Rk11 e n r) : ∀ {f : Nat} {o : List Nat}, Ok11 e n o → o.length + f ≤ n → ∃ o', od11 e n f o = some o'
  | 0, o, _, _ => ⟨o, rfl⟩
  | f + 1, o, h, hl => by
    rw [od11]
    split
    · rename_i hn
      exfalso
      have hne : (List.range n).filter (fun k => !o.contains k) ≠ [] := by
        intro h0
        have h1 : ∀ k, k < n → k ∈ o := fun k hk => by
          by_cases hm : k ∈ o
          · exact hm
          · have : k ∈ (List.range n).filter (fun k => !o.contains k) := List.mem_filter.2 ⟨List.mem_range.2 hk, by simpa using hm⟩
            rw [h0] at this
            cases this
        have h2 : (List.range n).length ≤ o.length := (List.nodup_range).length_le_of_subset (fun k hk => h1 k (List.mem_range.1 hk))
        rw [List.length_range] at h2
        omega
      obtain ⟨k, hk, hm⟩ := pick11 (r := r) hne
      obtain ⟨hk1, hk2⟩ := List.mem_filter.1 hk
      obtain ⟨j, hj1, hj2, hj3⟩ := nx11_none hn k (List.mem_range.1 hk1) (by simpa using hk2)
      have h1 := hm j (List.mem_filter.2 ⟨List.mem_range.2 hj1, by simpa using hj3⟩)
      have h2 := hr k j (List.mem_range.1 hk1) hj1 hj2
      omega
    · rename_i k hk
      exact od11_rk hr (h.snoc hk) (by rw [List.length_append]; simp; omega)
theorem or11_rk {r : Nat → Nat} (hr : Rk11 e n r) : ∃ o, or11 e n = some o := od11_rk hr Ok11.nil (by simp)
/-- Where there is an order, its places are a rank. -/
theorem Ok11.rk {o : List Nat} (h : Ok11 e n o) (hl : o.length = n) : Rk11 e n (fun k => o.idxOf k) := by
  intro k j hk hj he
  have hm := all11 h.nd h.lt hl k hk
  have h0 : o.idxOf k < o.length := List.idxOf_lt_length_iff.2 hm
  have h1 : o[o.idxOf k]? = some k := by rw [List.getElem?_eq_getElem h0]; simp
  obtain ⟨m, hm1, hm2⟩ := h.be _ k h1 j hj he
  have h2 := (List.getElem?_eq_some_iff.1 hm2)
  obtain ⟨h3, h4⟩ := h2
  have h5 : o.idxOf j = m := by rw [← h4]; exact h.nd.idxOf_getElem m h3
  show o.idxOf j < o.idxOf k
  omega
end
end Go.Proofs.Ytimjnmkfbdijeaa
namespace Go.Proofs.Ytimjnmkfbdijeaa
set_option maxRecDepth 100000
set_option linter.unusedVariables false

/-- k leads to j. -/
inductive Le11 (e : Nat → Nat → Bool) (n : Nat) : Nat → Nat → Prop where
  | one {k j : Nat} : k < n → j < n → e k j = true → Le11 e n k j
  | more {k i j : Nat} : k < n → i < n → e k i = true → Le11 e n i j → Le11 e n k j
section
variable {e : Nat → Nat → Bool} {n : Nat}
theorem Le11.lt {k j : Nat} (h : Le11 e n k j) : k < n ∧ j < n := by
  induction h with
  | one h1 h2 _ => exact ⟨h1, h2⟩
  | more h1 _ _ _ ih => exact ⟨h1, ih.2⟩
theorem Le11.rk {r : Nat → Nat} (hr : Rk11 e n r) {k j : Nat} (h : Le11 e n k j) : r j < r k := by
  induction h with
  | one h1 h2 h3 => exact hr _ _ h1 h2 h3
  | more h1 h2 h3 _ ih => exact Nat.lt_trans ih (hr _ _ h1 h2 h3)
theorem Le11.trans {k i j : Nat} (h : Le11 e n k i) (g : Le11 e n i j) : Le11 e n k j := by
  induction h with
  | one h1 h2 h3 => exact .more h1 h2 h3 g
  | more h1 h2 h3 _ ih => exact .more h1 h2 h3 (ih g)
theorem Le11.mono {e' : Nat → Nat → Bool} (hs : ∀ k j, e k j = true → e' k j = true) {k j : Nat} (h : Le11 e n k j) : Le11 e' n k j := by
  induction h with
  | one h1 h2 h3 => exact .one h1 h2 (hs _ _ h3)
  | more h1 h2 h3 _ ih => exact .more h1 h2 (hs _ _ h3) ih
/-- The same, reckoned, in at most f calls one behind the other. -/
def ld11 (e : Nat → Nat → Bool) (n : Nat) : Nat → Nat → Nat → Bool
  | 0, _, _ => false
  | f + 1, k, j => e k j || (List.range n).any fun i => e k i && ld11 e n f i j
theorem ld11_le : ∀ {f k j : Nat}, k < n → j < n → ld11 e n f k j = true → Le11 e n k j
  | 0, k, j, _, _, h => by cases h
  | f + 1, k, j, hk, hj, h => by
    rw [ld11, Bool.or_eq_true, List.any_eq_true] at h
    rcases h with h | ⟨i, hi, h⟩
    · exact .one hk hj h
    · rw [Bool.and_eq_true] at h
      have hin := List.mem_range.1 hi
      exact .more hk hin h.1 (ld11_le hin hj h.2)
theorem le11_ld {r : Nat → Nat} (hr : Rk11 e n r) : ∀ {f k j : Nat}, r k < f → Le11 e n k j → ld11 e n f k j = true
  | 0, k, j, hf, _ => by omega
  | f + 1, k, j, hf, h => by
    rw [ld11, Bool.or_eq_true, List.any_eq_true]
    cases h with
    | one _ _ h3 => exact .inl h3
    | more h1 h2 h3 h4 =>
      rename_i i
      have := hr k i h1 h2 h3
      exact .inr ⟨i, List.mem_range.2 h2, by rw [Bool.and_eq_true]; exact ⟨h3, le11_ld hr (by omega) h4⟩⟩
/-- The longest chain of calls from k, of at most f. -/
def dp11 (e : Nat → Nat → Bool) (n : Nat) : Nat → Nat → Nat
  | 0, _ => 0
  | f + 1, k => ((List.range n).filter (e k)).foldl (fun m j => max m (dp11 e n f j + 1)) 1
theorem foldl_congr11 {g h : Nat → Nat} : ∀ {l : List Nat} {m : Nat}, (∀ j ∈ l, g j = h j) → l.foldl (fun m j => max m (g j + 1)) m = l.foldl (fun m j => max m (h j + 1)) m
  | [], _, _ => rfl
  | a :: l, m, hl => by
    simp only [List.foldl_cons]
    rw [hl a List.mem_cons_self]
    exact foldl_congr11 (fun j hj => hl j (List.mem_cons_of_mem _ hj))
theorem foldl_le11 {g : Nat → Nat} {b : Nat} : ∀ {l : List Nat} {m : Nat}, m ≤ b → (∀ j ∈ l, g j + 1 ≤ b) → l.foldl (fun m j => max m (g j + 1)) m ≤ b
  | [], _, hm, _ => hm
  | a :: l, m, hm, hl => by
    simp only [List.foldl_cons]
    exact foldl_le11 (Nat.max_le.2 ⟨hm, hl a List.mem_cons_self⟩) (fun j hj => hl j (List.mem_cons_of_mem _ hj))
theorem dp11_eq {r : Nat → Nat} (hr : Rk11 e n r) : ∀ {f g k : Nat}, k < n → r k < f → r k < g → dp11 e n f k = dp11 e n g k
  | 0, _, _, _, h, _ => by omega
  | _ + 1, 0, _, _, _, h => by omega
  | f + 1, g + 1, k, hk, h1, h2 => by
    rw [dp11, dp11]
    refine foldl_congr11 fun j hj => ?_
    obtain ⟨hj1, hj2⟩ := List.mem_filter.1 hj
    have hjn := List.mem_range.1 hj1
    have := hr k j hk hjn hj2
    exact dp11_eq hr hjn (by omega) (by omega)
theorem dp11_le {r : Nat → Nat} (hr : Rk11 e n r) : ∀ {f k : Nat}, k < n → dp11 e n f k ≤ r k + 1
  | 0, _, _ => by rw [dp11]; omega
  | f + 1, k, hk => by
    rw [dp11]
    refine foldl_le11 (by omega) fun j hj => ?_
    obtain ⟨hj1, hj2⟩ := List.mem_filter.1 hj
    have hjn := List.mem_range.1 hj1
    have := hr k j hk hjn hj2
    have := dp11_le (f := f) hr hjn
    omega
/-- Each is one deeper than the deepest that it calls. -/
theorem dp11_step {r : Nat → Nat} (hr : Rk11 e n r) {k : Nat} (hk : k < n) (hb : ∀ k, k < n → r k < n) : dp11 e n n k = ((List.range n).filter (e k)).foldl (fun m j => max m (dp11 e n n j + 1)) 1 := by
  rw [dp11_eq hr hk (hb k hk) (Nat.lt_succ_of_lt (hb k hk)), dp11]
/-- None calls another one: the order is 0, 1, 2, .. -/
theorem or11_plain (h : ∀ k j, k < n → j < n → e k j = false) : or11 e n = some (List.range n) := by
  have go : ∀ f i, i + f = n → od11 e n f (List.range i) = some (List.range n) := by
    intro f
    induction f with
    | zero => intro i hi; simp only [od11]; rw [show i = n by omega]
    | succ f ih =>
      intro i hi
      have hn : nx11 e n (List.range i) = some i := by
        unfold nx11
        rw [List.find?_range_eq_some]
        refine ⟨rd11_iff.2 ⟨by simp, fun j hj he => ?_⟩, List.mem_range.2 (by omega), fun q hq => ?_⟩
        · rw [h i j (by omega) hj] at he; cases he
        · have : ¬ rd11 e n (List.range i) q = true := fun hx => (rd11_iff.1 hx).1 (List.mem_range.2 hq)
          simpa using this
      rw [od11, hn]
      dsimp only
      rw [← List.range_succ]
      exact ih (i + 1) (by omega)
  exact go n 0 (by omega)
/-- A call more, from b to a. -/
def ad11 (e : Nat → Nat → Bool) (b a : Nat) : Nat → Nat → Bool := fun k j => e k j || (k == b && j == a)
theorem ad11_cyc {a b : Nat} (ha : a < n) (hb : b < n) (h : a = b ∨ Le11 e n a b) : or11 (ad11 e b a) n = none := by
  cases ho : or11 (ad11 e b a) n with
  | none => rfl
  | some o =>
    exfalso
    obtain ⟨h1, h2⟩ := or11_ok ho
    have hr := h1.rk h2
    have he : ad11 e b a b a = true := by simp [ad11]
    have h3 : Le11 (ad11 e b a) n b b := by
      rcases h with rfl | h
      · exact .one ha ha he
      · exact .more hb ha he (h.mono (fun k j hk => by simp [ad11, hk]))
    have := h3.rk hr
    omega
open Classical in
theorem ad11_ok {a b : Nat} (ha : a < n) {r : Nat → Nat} (hr : Rk11 e n r) (hab : a ≠ b) (h : ¬ Le11 e n a b) : ∃ o, or11 (ad11 e b a) n = some o := by
  obtain ⟨N, hN⟩ : ∃ N, ∀ k, k < n → r k < N := by
    clear hr h ha
    induction n with
    | zero => exact ⟨0, fun k hk => by omega⟩
    | succ n ih =>
      obtain ⟨N, hN⟩ := ih
      exact ⟨max N (r n + 1), fun k hk => by
        by_cases hkn : k = n
        · subst hkn; omega
        · have := hN k (by omega); omega⟩
  refine or11_rk (r := fun k => if k = a ∨ Le11 e n a k then r k else r k + N) fun k j hk hj he => ?_
  dsimp only
  rw [ad11, Bool.or_eq_true] at he
  rcases he with he | he
  · have h1 := hr k j hk hj he
    by_cases hA : k = a ∨ Le11 e n a k
    · have hB : j = a ∨ Le11 e n a j := by
        rcases hA with rfl | hA
        · exact .inr (.one hk hj he)
        · exact .inr (hA.trans (.one hk hj he))
      rw [if_pos hA, if_pos hB]
      exact h1
    · rw [if_neg hA]
      have := hN j hj
      split <;> omega
  · rw [Bool.and_eq_true, beq_iff_eq, beq_iff_eq] at he
    obtain ⟨rfl, rfl⟩ := he
    have hk1 : ¬ (k = j ∨ Le11 e n j k) := fun hx => by
      rcases hx with hx | hx
      · exact hab hx.symm
      · exact h hx
    rw [if_pos (.inl rfl), if_neg hk1]
    have := hN j hj
    omega
end
end Go.Proofs.Ytimjnmkfbdijeaa
namespace Go.Proofs.Ytimjnmkfbdijeaa
open Go.RowKit
set_option maxRecDepth 100000
set_option linter.unusedVariables false

abbrev ns11 (l : List Nat) : List Int := l.map fun j : Nat => (j : Int)
/-- Does code call n? -/
def cl11 (L : List Ins) (n : Int) : Bool := L.any fun x => x.1 == 30 && x.2.1 == n
/-- Does it call one that is not there? -/
def bd11 (L : List Ins) (N : Nat) : Bool := L.any fun x => x.1 == 30 && (decide (x.2.1 < 0) || decide ((N : Int) ≤ x.2.1))
/-- The code of the method k. -/
def co11 (d : Md) (k : Nat) : List Ins := (d.s[k]?.getD (Mh.zero, [])).2
def e11 (d : Md) (k j : Nat) : Bool := cl11 (co11 d k) j
/-- Whom the method k calls, or the error. -/
def wh11 (d : Md) (k : Int) : List Int × Int :=
  if k < 0 ∨ (d.s.length : Int) ≤ k then ([], 2) else if bd11 (co11 d k.toNat) d.s.length = true then ([], 2) else (ns11 ((List.range d.s.length).filter (e11 d k.toNat)), 0)
/-- Does any method call one that is not there? -/
def ba11 (d : Md) : Bool := d.s.any fun z => bd11 z.2 d.s.length
/-- The order, or the error. -/
def ro11 (d : Md) : List Int × Int :=
  if ba11 d = true then ([], 2) else match or11 (e11 d) d.s.length with
    | some o => (ns11 o, 0)
    | none => ([], 110)
/-- To whom the method k leads, or the error. -/
def le11 (d : Md) (k : Int) : List Int × Int :=
  if (ro11 d).2 = 0 then (if k < 0 ∨ (d.s.length : Int) ≤ k then ([], 2) else (ns11 ((List.range d.s.length).filter (ld11 (e11 d) d.s.length d.s.length k.toNat)), 0)) else ([], (ro11 d).2)
/-- How deep calls are, or the error. -/
def de11 (d : Md) : List Int × Int := if (ro11 d).2 = 0 then ((List.range d.s.length).map fun k => (dp11 (e11 d) d.s.length d.s.length k : Int), 0) else ([], (ro11 d).2)
theorem ba11_at {d : Md} (h : ba11 d = false) {k : Nat} (hk : k < d.s.length) : bd11 (co11 d k) d.s.length = false := by
  unfold ba11 at h
  rw [List.any_eq_false] at h
  have := h d.s[k] (List.getElem_mem hk)
  rw [co11, List.getElem?_eq_getElem hk]
  simpa using this
theorem ba11_of {d : Md} (h : ∀ k, k < d.s.length → bd11 (co11 d k) d.s.length = false) : ba11 d = false := by
  unfold ba11
  rw [List.any_eq_false]
  intro z hz
  obtain ⟨k, hk⟩ := List.getElem?_of_mem hz
  have h1 := (List.getElem?_eq_some_iff.1 hk).1
  have := h k h1
  rw [co11, hk] at this
  simpa using this
theorem wh11_ok {d : Md} (h : ba11 d = false) {k : Nat} (hk : k < d.s.length) : wh11 d k = (ns11 ((List.range d.s.length).filter (e11 d k)), 0) := by
  rw [wh11, if_neg (by omega), Int.toNat_natCast, if_neg (by rw [ba11_at h hk]; decide)]
theorem ro11_ok {d : Md} (h : (ro11 d).2 = 0) : ba11 d = false ∧ ∃ o, or11 (e11 d) d.s.length = some o ∧ (ro11 d).1 = ns11 o := by
  unfold ro11 at h ⊢
  split at h
  · cases h
  · rename_i hb
    cases ho : or11 (e11 d) d.s.length with
    | none => rw [ho] at h; cases h
    | some o => exact ⟨by simpa using hb, o, rfl, by rw [if_neg hb]⟩
theorem ro11_no {d : Md} (h : (ro11 d).2 ≠ 0) : (ro11 d).1 = [] := by
  unfold ro11 at h ⊢
  split
  · rfl
  · rename_i hb
    rw [if_neg hb] at h
    cases ho : or11 (e11 d) d.s.length with
    | none => rfl
    | some o => rw [ho] at h; exact absurd rfl h
/-- What an order gives: a rank below the number of methods, and each who is called is there. -/
theorem ro11_rk {d : Md} (h : (ro11 d).2 = 0) : ∃ r : Nat → Nat, Rk11 (e11 d) d.s.length r ∧ ∀ k, k < d.s.length → r k < d.s.length := by
  obtain ⟨-, o, ho, -⟩ := ro11_ok h
  obtain ⟨h1, h2⟩ := or11_ok ho
  refine ⟨fun k => o.idxOf k, h1.rk h2, fun k hk => ?_⟩
  have hm := all11 h1.nd h1.lt h2 k hk
  have := List.idxOf_lt_length_iff.2 hm
  show o.idxOf k < _
  omega
/-- k leads to j, as told. -/
theorem le11_iff {d : Md} (h : (ro11 d).2 = 0) {k j : Nat} (hk : k < d.s.length) : (j : Int) ∈ (le11 d k).1 ↔ Le11 (e11 d) d.s.length k j := by
  obtain ⟨r, hr, hb⟩ := ro11_rk h
  rw [le11, if_pos h, if_neg (by omega), Int.toNat_natCast]
  simp only [List.mem_map, List.mem_filter, List.mem_range]
  constructor
  · rintro ⟨i, ⟨hi, hl⟩, he⟩
    have : i = j := by omega
    subst this
    exact ld11_le hk hi hl
  · intro hl
    exact ⟨j, ⟨hl.lt.2, le11_ld hr (hb k hk) hl⟩, rfl⟩
end Go.Proofs.Ytimjnmkfbdijeaa
