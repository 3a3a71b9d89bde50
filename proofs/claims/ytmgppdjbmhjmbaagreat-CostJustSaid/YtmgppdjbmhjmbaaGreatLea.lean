/-
  Ea, Eb, Ec: in one text.
-/
import Derived.Test.YtmgppdjbmhjmbaaGreatLd
import Derived.Test.YtmgppdjbmhjmbaaGreatLm
namespace Go.Proofs.YtmgppdjbmhjmbaaGreat
set_option maxRecDepth 100000
set_option linter.unusedVariables false

/-- Could k come next behind those of o? -/
def rd11 (e : Nat → Nat → Bool) (n : Nat) (o : List Nat) (k : Nat) : Bool := !o.contains k && (List.range n).all fun j => !e k j || o.contains j
/-- The least that could. -/
def nx11 (e : Nat → Nat → Bool) (n : Nat) (o : List Nat) : Option Nat := (List.range n).find? (rd11 e n o)
/-- f steps of the order. -/
def od11 (e : Nat → Nat → Bool) (n : Nat) : Nat → List Nat → Option (List Nat)
  | 0, o => some o
  | f + 1, o => match nx11 e n o with
    | none => none
    | some k => od11 e n f (o ++ [k])
/-- The order, if calls are well-founded. -/
def or11 (e : Nat → Nat → Bool) (n : Nat) : Option (List Nat) := od11 e n n []
section
variable {e : Nat → Nat → Bool} {n : Nat}
theorem rd11_iff {o : List Nat} {k : Nat} : rd11 e n o k = true ↔ k ∉ o ∧ ∀ j, j < n → e k j = true → j ∈ o := by
  simp only [rd11, Bool.and_eq_true, Bool.not_eq_true', List.all_eq_true, List.mem_range, Bool.or_eq_true, List.contains_iff_mem, ← Bool.not_eq_true]
  constructor
  · rintro ⟨h1, h2⟩
    exact ⟨h1, fun j hj he => (h2 j hj).resolve_left (fun h => h he)⟩
  · rintro ⟨h1, h2⟩
    exact ⟨h1, fun j hj => by
      by_cases he : e k j = true
      · exact .inr (h2 j hj he)
      · exact .inl he⟩
theorem nx11_some {o : List Nat} {k : Nat} (h : nx11 e n o = some k) : k < n ∧ k ∉ o ∧ (∀ j, j < n → e k j = true → j ∈ o) ∧ ∀ i, i < k → rd11 e n o i = false := by
  unfold nx11 at h
  have h1 := List.mem_of_find?_eq_some h
  have h2 := List.find?_some h
  obtain ⟨h3, h4⟩ := rd11_iff.1 h2
  refine ⟨List.mem_range.1 h1, h3, h4, fun i hi => ?_⟩
  rw [List.find?_range_eq_some] at h
  have := h.2.2 i hi
  simpa using this
/-- What holds of the beginning of an order. -/
structure Ok11 (e : Nat → Nat → Bool) (n : Nat) (o : List Nat) : Prop where
  lt : ∀ k ∈ o, k < n
  nd : o.Nodup
  be : ∀ (i k : Nat), o[i]? = some k → ∀ j, j < n → e k j = true → ∃ m, m < i ∧ o[m]? = some j
theorem Ok11.nil : Ok11 e n [] := ⟨fun k hk => (by cases hk), List.nodup_nil, fun i k h => (by simp at h)⟩
theorem Ok11.snoc {o : List Nat} {k : Nat} (h : Ok11 e n o) (hk : nx11 e n o = some k) : Ok11 e n (o ++ [k]) := by
  obtain ⟨h1, h2, h3, -⟩ := nx11_some hk
  refine ⟨fun i hi => ?_, ?_, fun i x hx j hj he => ?_⟩
  · rcases List.mem_append.1 hi with hi | hi
    · exact h.lt i hi
    · rw [List.mem_singleton.1 hi]; exact h1
  · rw [List.nodup_append]
    exact ⟨h.nd, (by simp), fun a ha b hb hab => by rw [List.mem_singleton.1 hb] at hab; rw [hab] at ha; exact h2 ha⟩
  · rw [List.getElem?_append] at hx
    split at hx
    · obtain ⟨m, hm, hj2⟩ := h.be i x hx j hj he
      exact ⟨m, hm, by rw [List.getElem?_append_left (List.getElem?_eq_some_iff.1 hj2).1]; exact hj2⟩
    · rename_i hil
      have hx2 := List.mem_of_getElem? hx
      rw [List.mem_singleton] at hx2
      subst hx2
      obtain ⟨m, hm⟩ := List.getElem?_of_mem (h3 j hj he)
      have hml := (List.getElem?_eq_some_iff.1 hm).1
      exact ⟨m, by omega, by rw [List.getElem?_append_left hml]; exact hm⟩
theorem od11_ok : ∀ {f : Nat} {o o' : List Nat}, Ok11 e n o → od11 e n f o = some o' → Ok11 e n o' ∧ o'.length = o.length + f
  | 0, o, o', h, ho => by
    simp only [od11, Option.some.injEq] at ho
    subst ho
    exact ⟨h, rfl⟩
  | f + 1, o, o', h, ho => by
    rw [od11] at ho
    split at ho
    · cases ho
    · rename_i k hk
      obtain ⟨h1, h2⟩ := od11_ok (h.snoc hk) ho
      exact ⟨h1, by rw [h2, List.length_append]; simp; omega⟩
theorem or11_ok {o : List Nat} (h : or11 e n = some o) : Ok11 e n o ∧ o.length = n := by
  obtain ⟨h1, h2⟩ := od11_ok Ok11.nil h
  exact ⟨h1, by simpa using h2⟩
/-- So many different numbers below n are all of them. -/
theorem all11 : ∀ {n : Nat} {o : List Nat}, o.Nodup → (∀ k ∈ o, k < n) → o.length = n → ∀ k, k < n → k ∈ o
  | 0, o, _, _, _, k, hk => by omega
  | n + 1, o, hd, hl, hn, k, hk => by
    by_cases hm : n ∈ o
    · have h1 : (o.erase n).length = n := by rw [List.length_erase_of_mem hm]; omega
      have h2 : ∀ x ∈ o.erase n, x < n := fun x hx => by
        have h3 := hl x (List.mem_of_mem_erase hx)
        have h4 : x ≠ n := fun h => by subst h; exact (List.Nodup.mem_erase_iff hd).1 hx |>.1 rfl
        omega
      by_cases hkn : k = n
      · subst hkn; exact hm
      · exact List.mem_of_mem_erase (all11 (hd.erase n) h2 h1 k (by omega))
    · have h2 : ∀ x ∈ o, x < n := fun x hx => by
        have h3 := hl x hx
        have h4 : x ≠ n := fun h => by subst h; exact hm hx
        omega
      exfalso
      have := nodup_len h2 hd
      omega
where nodup_len : ∀ {n : Nat} {o : List Nat}, (∀ k ∈ o, k < n) → o.Nodup → o.length ≤ n
  | 0, o, hl, _ => by
    cases o with
    | nil => simp
    | cons a o => exact absurd (hl a List.mem_cons_self) (by omega)
  | n + 1, o, hl, hd => by
    by_cases hm : n ∈ o
    · have h2 : ∀ x ∈ o.erase n, x < n := fun x hx => by
        have h3 := hl x (List.mem_of_mem_erase hx)
        have h4 : x ≠ n := fun h => by subst h; exact (List.Nodup.mem_erase_iff hd).1 hx |>.1 rfl
        omega
      have := nodup_len h2 (hd.erase n)
      rw [List.length_erase_of_mem hm] at this
      omega
    · have h2 : ∀ x ∈ o, x < n := fun x hx => by
        have h3 := hl x hx
        have h4 : x ≠ n := fun h => by subst h; exact hm hx
        omega
      have := nodup_len h2 hd
      omega
/-- A rank: each call goes to a lesser one. -/
def Rk11 (e : Nat → Nat → Bool) (n : Nat) (r : Nat → Nat) : Prop := ∀ k j, k < n → j < n → e k j = true → r j < r k
/-- Where there is an order, its places are a rank. -/
theorem Ok11.rk {o : List Nat} (h : Ok11 e n o) (hl : o.length = n) : Rk11 e n (fun k => o.idxOf k) := by
  intro k j hk hj he
  have hm := all11 h.nd h.lt hl k hk
  have h0 : o.idxOf k < o.length := List.idxOf_lt_length_iff.2 hm
  have h1 : o[o.idxOf k]? = some k := by rw [List.getElem?_eq_getElem h0]; simp
  obtain ⟨m, hm1, hm2⟩ := h.be _ k h1 j hj he
  have h2 := (List.getElem?_eq_some_iff.1 hm2)
  obtain ⟨h3, h4⟩ := h2
  have h5 : o.idxOf j = m := by rw [← h4]; exact h.nd.idxOf_getElem m h3
  show o.idxOf j < o.idxOf k
  omega
end
end Go.Proofs.YtmgppdjbmhjmbaaGreat
namespace Go.Proofs.YtmgppdjbmhjmbaaGreat
set_option maxRecDepth 100000
set_option linter.unusedVariables false

/-- k leads to j. -/
inductive Le11 (e : Nat → Nat → Bool) (n : Nat) : Nat → Nat → Prop where
  | one {k j : Nat} : k < n → j < n → e k j = true → Le11 e n k j
  | more {k i j : Nat} : k < n → i < n → e k i = true → Le11 e n i j → Le11 e n k j
section
variable {e : Nat → Nat → Bool} {n : Nat}
theorem Le11.lt {k j : Nat} (h : Le11 e n k j) : k < n ∧ j < n := by
  induction h with
  | one h1 h2 _ => exact ⟨h1, h2⟩
  | more h1 _ _ _ ih => exact ⟨h1, ih.2⟩
theorem Le11.rk {r : Nat → Nat} (hr : Rk11 e n r) {k j : Nat} (h : Le11 e n k j) : r j < r k := by
  induction h with
  | one h1 h2 h3 => exact hr _ _ h1 h2 h3
  | more h1 h2 h3 _ ih => exact Nat.lt_trans ih (hr _ _ h1 h2 h3)
theorem Le11.trans {k i j : Nat} (h : Le11 e n k i) (g : Le11 e n i j) : Le11 e n k j := by
  induction h with
  | one h1 h2 h3 => exact .more h1 h2 h3 g
  | more h1 h2 h3 _ ih => exact .more h1 h2 h3 (ih g)
theorem Le11.mono {e' : Nat → Nat → Bool} (hs : ∀ k j, e k j = true → e' k j = true) {k j : Nat} (h : Le11 e n k j) : Le11 e' n k j := by
  induction h with
  | one h1 h2 h3 => exact .one h1 h2 (hs _ _ h3)
  | more h1 h2 h3 _ ih => exact .more h1 h2 (hs _ _ h3) ih
/-- The same, reckoned, in at most f calls one behind the other. -/
def ld11 (e : Nat → Nat → Bool) (n : Nat) : Nat → Nat → Nat → Bool
  | 0, _, _ => false
  | f + 1, k, j => e k j || (List.range n).any fun i => e k i && ld11 e n f i j
theorem ld11_le : ∀ {f k j : Nat}, k < n → j < n → ld11 e n f k j = true → Le11 e n k j
  | 0, k, j, _, _, h => by cases h
  | f + 1, k, j, hk, hj, h => by
    rw [ld11, Bool.or_eq_true, List.any_eq_true] at h
    rcases h with h | ⟨i, hi, h⟩
    · exact .one hk hj h
    · rw [Bool.and_eq_true] at h
      have hin := List.mem_range.1 hi
      exact .more hk hin h.1 (ld11_le hin hj h.2)
theorem le11_ld {r : Nat → Nat} (hr : Rk11 e n r) : ∀ {f k j : Nat}, r k < f → Le11 e n k j → ld11 e n f k j = true
  | 0, k, j, hf, _ => by omega
  | f + 1, k, j, hf, h => by
    rw [ld11, Bool.or_eq_true, List.any_eq_true]
    cases h with
    | one _ _ h3 => exact .inl h3
    | more h1 h2 h3 h4 =>
      rename_i i
      have := hr k i h1 h2 h3
      exact .inr ⟨i, List.mem_range.2 h2, by rw [Bool.and_eq_true]; exact ⟨h3, le11_ld hr (by omega) h4⟩⟩
end
end Go.Proofs.YtmgppdjbmhjmbaaGreat
namespace Go.Proofs.YtmgppdjbmhjmbaaGreat
open Go.RowKit
set_option maxRecDepth 100000
set_option linter.unusedVariables false

abbrev ns11 (l : List Nat) : List Int := l.map fun j : Nat => (j : Int)
/-- Does code call n? -/
def cl11 (L : List Ins) (n : Int) : Bool := L.any fun x => x.1 == 30 && x.2.1 == n
/-- Does it call one that is not there? -/
def bd11 (L : List Ins) (N : Nat) : Bool := L.any fun x => x.1 == 30 && (decide (x.2.1 < 0) || decide ((N : Int) ≤ x.2.1))
/-- The code of the method k. -/
def co11 (d : Md) (k : Nat) : List Ins := (d.s[k]?.getD (Mh.zero, [])).2
def e11 (d : Md) (k j : Nat) : Bool := cl11 (co11 d k) j
/-- Does any method call one that is not there? -/
def ba11 (d : Md) : Bool := d.s.any fun z => bd11 z.2 d.s.length
/-- The order, or the error. -/
def ro11 (d : Md) : List Int × Int :=
  if ba11 d = true then ([], 2) else match or11 (e11 d) d.s.length with
    | some o => (ns11 o, 0)
    | none => ([], 110)
/-- To whom the method k leads, or the error. -/
def le11 (d : Md) (k : Int) : List Int × Int :=
  if (ro11 d).2 = 0 then (if k < 0 ∨ (d.s.length : Int) ≤ k then ([], 2) else (ns11 ((List.range d.s.length).filter (ld11 (e11 d) d.s.length d.s.length k.toNat)), 0)) else ([], (ro11 d).2)
theorem ba11_at {d : Md} (h : ba11 d = false) {k : Nat} (hk : k < d.s.length) : bd11 (co11 d k) d.s.length = false := by
  unfold ba11 at h
  rw [List.any_eq_false] at h
  have := h d.s[k] (List.getElem_mem hk)
  rw [co11, List.getElem?_eq_getElem hk]
  simpa using this
theorem ba11_of {d : Md} (h : ∀ k, k < d.s.length → bd11 (co11 d k) d.s.length = false) : ba11 d = false := by
  unfold ba11
  rw [List.any_eq_false]
  intro z hz
  obtain ⟨k, hk⟩ := List.getElem?_of_mem hz
  have h1 := (List.getElem?_eq_some_iff.1 hk).1
  have := h k h1
  rw [co11, hk] at this
  simpa using this
theorem ro11_ok {d : Md} (h : (ro11 d).2 = 0) : ba11 d = false ∧ ∃ o, or11 (e11 d) d.s.length = some o ∧ (ro11 d).1 = ns11 o := by
  unfold ro11 at h ⊢
  split at h
  · cases h
  · rename_i hb
    cases ho : or11 (e11 d) d.s.length with
    | none => rw [ho] at h; cases h
    | some o => exact ⟨by simpa using hb, o, rfl, by rw [if_neg hb]⟩
/-- What an order gives: a rank below the number of methods, and each who is called is there. -/
theorem ro11_rk {d : Md} (h : (ro11 d).2 = 0) : ∃ r : Nat → Nat, Rk11 (e11 d) d.s.length r ∧ ∀ k, k < d.s.length → r k < d.s.length := by
  obtain ⟨-, o, ho, -⟩ := ro11_ok h
  obtain ⟨h1, h2⟩ := or11_ok ho
  refine ⟨fun k => o.idxOf k, h1.rk h2, fun k hk => ?_⟩
  have hm := all11 h1.nd h1.lt h2 k hk
  have := List.idxOf_lt_length_iff.2 hm
  show o.idxOf k < _
  omega
/-- k leads to j, as told. -/
theorem le11_iff {d : Md} (h : (ro11 d).2 = 0) {k j : Nat} (hk : k < d.s.length) : (j : Int) ∈ (le11 d k).1 ↔ Le11 (e11 d) d.s.length k j := by
  obtain ⟨r, hr, hb⟩ := ro11_rk h
  rw [le11, if_pos h, if_neg (by omega), Int.toNat_natCast]
  simp only [List.mem_map, List.mem_filter, List.mem_range]
  constructor
  · rintro ⟨i, ⟨hi, hl⟩, he⟩
    have : i = j := by omega
    subst this
    exact ld11_le hk hi hl
  · intro hl
    exact ⟨j, ⟨hl.lt.2, le11_ld hr (hb k hk) hl⟩, rfl⟩
end Go.Proofs.YtmgppdjbmhjmbaaGreat
