/-
  Layer 11, law CallsOrder: arrays of forty; to whom methods lead.
-/
import Derived.Test.YtfbabbddiplgkaaLeh
namespace Go.Proofs.Ytfbabbddiplgkaa
open Go.RowKit
set_option maxRecDepth 100000
set_option linter.unusedSimpArgs false
set_option linter.unusedVariables false

theorem Try.infoI40 : (Try.prog.info? 42).map (fun i => (i.zero, i.size)) = some (some (.agg (Array.replicate 40 (.int .i64 0))), 40) := by kernel_rfl
theorem Try.infoB40 : (Try.prog.info? 43).map (fun i => (i.zero, i.size)) = some (some (.agg (Array.replicate 40 (.bool false))), 40) := by kernel_rfl
/-- Forty cells. -/
def f40 (g : Nat → Value) : Array Value := ((List.range 40).map g).toArray
theorem f40_at {g : Nat → Value} {i : Nat} (h : i < 40) : (f40 g)[i]? = some (g i) := by simp [f40, h]
theorem f40_const (v : Value) : Array.replicate 40 v = f40 (fun _ => v) := by
  apply Array.ext
  · simp [f40]
  · intro i h1 h2
    simp [f40]
theorem f40_put {g g' : Nat → Value} {j : Nat} {v : Value} (hj : g' j = v) (ho : ∀ i, i ≠ j → g' i = g i) : (f40 g).setIfInBounds j v = f40 g' := by
  apply Array.ext
  · simp [f40]
  · intro i h1 h2
    rw [Array.getElem_setIfInBounds (by simpa using h1)]
    by_cases h : j = i
    · subst h
      simp [f40, hj]
    · have h' : i ≠ j := fun e => h e.symm
      simp [f40, h, ho i h']
/-- The array lies in block B. -/
def A40 (w : World) (B t : Nat) (g : Nat → Value) : Prop := w.heap[B]? = some (.cells (f40 g) t (0, 0))
section
variable {w w' : World} {B t : Nat} {g : Nat → Value}
theorem A40.lt (h : A40 w B t g) : B < w.heap.size := (Array.getElem?_eq_some_iff.1 h).1
theorem A40.keep (h : A40 w B t g) (hb : Below w.heap.size w w') : A40 w' B t g := (hb.block B h.lt).trans h
theorem A40.on {n : Nat} (h : A40 w B t g) (hb : Below n w w') (hB : B < n) : A40 w' B t g := (hb.block B hB).trans h
theorem A40.cell (h : A40 w B t g) {i : Nat} (hi : i < 40) : w.cell? ⟨B, i, none⟩ = some (g i) := by
  rw [cell_of_row w B i (f40 g) _ (0, 0) h, f40_at hi]
theorem A40.froz (h : A40 w B t g) (i : Nat) : w.frozen? ⟨B, i, none⟩ = false := frozen_of_row w B i _ _ h
theorem A40.put (h : A40 w B t g) {g' : Nat → Value} {j : Nat} {v : Value} (hj : g' j = v) (ho : ∀ i, i ≠ j → g' i = g i) : A40 (w.setCell ⟨B, j, none⟩ v) B t g' := by
  unfold A40
  rw [heap_setCell_same w B j (f40 g) _ _ h, f40_put hj ho]
theorem A40.other (h : A40 w B t g) {p : Addr} (hp : p.block ≠ B) (v : Value) : A40 (w.setCell p v) B t g := (Below.heap_setCell w p v B (fun e => hp e.symm)).trans h
theorem A40.new (w : World) (t : Nat) (g : Nat → Value) : A40 (w.alloc (.cells (f40 g) t)) w.heap.size t g := World.alloc_heap_new w _
end
/-- To whom the method k leads. -/
def lk11 (d : Md) (k : Nat) : List Nat := (List.range d.s.length).filter (ld11 (e11 d) d.s.length d.s.length k)
theorem le11_lk {d : Md} (h : (ro11 d).2 = 0) {k : Nat} (hk : k < d.s.length) : le11 d k = (ns11 (lk11 d k), 0) := by
  rw [le11, if_pos h, if_neg (by omega), Int.toNat_natCast]
  rfl
theorem lk11_mem {d : Md} (h : (ro11 d).2 = 0) {k j : Nat} (hk : k < d.s.length) : j ∈ lk11 d k ↔ Le11 (e11 d) d.s.length k j := by
  obtain ⟨r, hr, hb⟩ := ro11_rk h
  rw [lk11, List.mem_filter, List.mem_range]
  exact ⟨fun ⟨a, b⟩ => ld11_le hk a b, fun hl => ⟨hl.lt.2, le11_ld hr (hb k hk) hl⟩⟩
theorem lk11_len (d : Md) (k : Nat) : (lk11 d k).length ≤ d.s.length := by
  have := List.length_filter_le (ld11 (e11 d) d.s.length d.s.length k) (List.range d.s.length)
  rwa [List.length_range] at this
theorem lk11_lt (d : Md) (k : Nat) : (lk11 d k).Pairwise (· < ·) := fil_lt11 _ _
/-- What an order tells of itself. -/
structure Os40 (d : Md) (o : List Nat) : Prop where
  ro : ro11 d = (ns11 o, 0)
  len : o.length = d.s.length
  lt : ∀ k ∈ o, k < d.s.length
  nd : o.Nodup
  all : ∀ k, k < d.s.length → k ∈ o
  rk : Rk11 (e11 d) d.s.length (fun k => o.idxOf k)
  or : or11 (e11 d) d.s.length = some o
theorem os40 {d : Md} (h : (ro11 d).2 = 0) : ∃ o, Os40 d o := by
  obtain ⟨-, o, ho, h1⟩ := ro11_ok h
  obtain ⟨h2, h3⟩ := or11_ok ho
  exact ⟨o, by rw [← h1, ← h], h3, h2.lt, h2.nd, all11 h2.nd h2.lt h3, h2.rk h3, ho⟩
section
variable {d : Md} {o : List Nat}
theorem Os40.zero (h : Os40 d o) : (ro11 d).2 = 0 := by rw [h.ro]
/-- The i-th of the order: it isn't among those ahead of it, and its place is i. -/
theorem Os40.at_ (h : Os40 d o) {i x : Nat} (hx : o[i]? = some x) : x < d.s.length ∧ (o.take i).contains x = false ∧ o.idxOf x = i := by
  obtain ⟨hi, he⟩ := List.getElem?_eq_some_iff.1 hx
  have hn : ∀ j, j < i → o[j]? ≠ some x := fun j hj hjx => by
    obtain ⟨hj2, hje⟩ := List.getElem?_eq_some_iff.1 hjx
    exact List.pairwise_iff_getElem.1 h.nd j i hj2 hi hj (hje.trans he.symm)
  refine ⟨h.lt x (List.mem_of_getElem? hx), ?_, ?_⟩
  · rw [← Bool.not_eq_true, List.contains_iff_mem]
    intro hm
    obtain ⟨j, hj⟩ := List.getElem?_of_mem hm
    have hj1 := (List.getElem?_eq_some_iff.1 hj).1
    rw [List.length_take] at hj1
    rw [List.getElem?_take_of_lt (by omega)] at hj
    exact hn j (by omega) hj
  · have hm : x ∈ o := List.mem_of_getElem? hx
    have h0 : o.idxOf x < o.length := List.idxOf_lt_length_iff.2 hm
    have h1 : o[o.idxOf x]? = some x := by rw [List.getElem?_eq_getElem h0]; simp
    have h2 : ¬ o.idxOf x < i := fun hlt => hn _ hlt h1
    have h3 : ¬ i < o.idxOf x := fun hlt => by
      obtain ⟨h4, h5⟩ := List.getElem?_eq_some_iff.1 h1
      exact List.pairwise_iff_getElem.1 h.nd i _ hi h4 hlt (he.trans h5.symm)
    omega
/-- Seen, of the first i. -/
def se40 (o : List Nat) (i : Nat) : Nat → Value := fun t => .bool ((o.take i).contains t)
/-- Places, of the first i. -/
def pl40 (o : List Nat) (i : Nat) : Nat → Value := fun t => .int .i64 (if (o.take i).contains t then (o.idxOf t : Int) else 0)
theorem se40_next {i x : Nat} (hx : o[i]? = some x) : se40 o (i + 1) x = .bool true ∧ ∀ t, t ≠ x → se40 o (i + 1) t = se40 o i t := by
  refine ⟨?_, fun t ht => ?_⟩
  · have : (o.take (i + 1)).contains x = true := by rw [List.contains_iff_mem, take_mem11 hx]; exact .inr rfl
    rw [se40, this]
  · have : (o.take (i + 1)).contains t = (o.take i).contains t := by
      rw [Bool.eq_iff_iff, List.contains_iff_mem, List.contains_iff_mem, take_mem11 hx]
      exact ⟨fun h => h.resolve_right ht, .inl⟩
    rw [se40, se40, this]
theorem Os40.pl_next (h : Os40 d o) {i x : Nat} (hx : o[i]? = some x) : pl40 o (i + 1) x = .int .i64 (i : Int) ∧ ∀ t, t ≠ x → pl40 o (i + 1) t = pl40 o i t := by
  refine ⟨?_, fun t ht => ?_⟩
  · have : (o.take (i + 1)).contains x = true := by rw [List.contains_iff_mem, take_mem11 hx]; exact .inr rfl
    rw [pl40, if_pos this, (h.at_ hx).2.2]
  · have : (o.take (i + 1)).contains t = (o.take i).contains t := by
      rw [Bool.eq_iff_iff, List.contains_iff_mem, List.contains_iff_mem, take_mem11 hx]
      exact ⟨fun h => h.resolve_right ht, .inl⟩
    rw [pl40, pl40, this]
theorem Os40.pl_end (h : Os40 d o) {i t : Nat} (hi : o.length ≤ i) (ht : t < d.s.length) : pl40 o i t = .int .i64 (o.idxOf t : Int) := by
  rw [pl40, List.take_of_length_le hi, if_pos (by rw [List.contains_iff_mem]; exact h.all t ht)]
/-- Do the first i call none? -/
def np40 (d : Md) (i : Nat) : Bool := (List.range i).all fun k => (ck11 d k).isEmpty
theorem np40_next (d : Md) (i : Nat) : np40 d (i + 1) = (np40 d i && decide (((ck11 d i).length : Int) = 0)) := by
  rw [np40, List.range_succ, List.all_append, ← np40]
  congr 1
  rw [List.all_cons, List.all_nil, Bool.and_true]
  cases ck11 d i with
  | nil => rfl
  | cons a l => rw [List.isEmpty_cons, List.length_cons]; exact (decide_eq_false (by omega)).symm
theorem Os40.plain (h : Os40 d o) (hp : np40 d d.s.length = true) {k : Nat} (hk : k < d.s.length) : o[k]? = some k ∧ lk11 d k = [] ∧ ck11 d k = [] := by
  have he : ∀ k j, k < d.s.length → j < d.s.length → e11 d k j = false := fun k j hk hj => by
    have h1 := List.all_eq_true.1 hp k (List.mem_range.2 hk)
    rw [← Bool.not_eq_true]
    intro h2
    have h3 : j ∈ ck11 d k := ck11_mem.2 ⟨hj, h2⟩
    rw [List.isEmpty_iff.1 h1] at h3
    cases h3
  refine ⟨?_, ?_, List.isEmpty_iff.1 (List.all_eq_true.1 hp k (List.mem_range.2 hk))⟩
  · have h1 := h.or
    rw [or11_plain he] at h1
    rw [← Option.some.inj h1, List.getElem?_range hk]
  · refine List.eq_nil_iff_forall_not_mem.2 fun j hj => ?_
    have h1 := (lk11_mem h.zero hk).1 hj
    have h2 : ∀ {k j}, Le11 (e11 d) d.s.length k j → False := fun h => by
      induction h with
      | one a b c => rw [he _ _ a b] at c; cases c
      | more _ _ _ _ ih => exact ih
    exact h2 h1
theorem Os40.rank (h : Os40 d o) {k j : Nat} (hk : k < d.s.length) (hj : j ∈ lk11 d k) : j < d.s.length ∧ j ≠ k ∧ o.idxOf j < o.idxOf k := by
  have h1 := (lk11_mem h.zero hk).1 hj
  have h2 := h1.rk h.rk
  exact ⟨h1.lt.2, fun e => by subst e; omega, h2⟩
theorem Os40.calls (h : Os40 d o) {k j : Nat} (hk : k < d.s.length) (hj : j ∈ ck11 d k) : j < d.s.length ∧ j ∈ lk11 d k ∧ ∀ i ∈ lk11 d j, i < d.s.length ∧ i ∈ lk11 d k := by
  obtain ⟨h1, h2⟩ := ck11_mem.1 hj
  have h3 : Le11 (e11 d) d.s.length k j := .one hk h1 h2
  refine ⟨h1, (lk11_mem h.zero hk).2 h3, fun i hi => ?_⟩
  have h4 := (lk11_mem h.zero h1).1 hi
  exact ⟨h4.lt.2, (lk11_mem h.zero hk).2 (h3.trans h4)⟩
/-- In, of the first i. -/
def in40 (l : List Nat) (i : Nat) : Nat → Value := se40 l i
theorem in40_end {l : List Nat} {i t : Nat} (hi : l.length ≤ i) (ht : t ∈ l) : se40 l i t = .bool true := by
  rw [se40, List.take_of_length_le hi, List.contains_iff_mem.2 ht]
theorem lt_prev11 {l : List Nat} (h : l.Pairwise (· < ·)) {i a b : Nat} (ha : l[i]? = some a) (hb : l[i + 1]? = some b) : a < b := by
  obtain ⟨h1, h2⟩ := List.getElem?_eq_some_iff.1 ha
  obtain ⟨h3, h4⟩ := List.getElem?_eq_some_iff.1 hb
  have := List.pairwise_iff_getElem.1 h i (i + 1) h1 h3 (by omega)
  rwa [h2, h4] at this
end
end Go.Proofs.Ytfbabbddiplgkaa
