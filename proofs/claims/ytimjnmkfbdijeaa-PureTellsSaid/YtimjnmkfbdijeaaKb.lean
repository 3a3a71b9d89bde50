/-
  Layer 13 on lists alone: what the chapter says of a module, by definition; its properties.
-/
import Derived.Test.YtimjnmkfbdijeaaKa
namespace Go.Proofs.Ytimjnmkfbdijeaa
open Go.RowKit
set_option maxRecDepth 100000
set_option linter.unusedVariables false

section
variable {e : Nat → Nat → Bool} {n : Nat} {s : Nat → Bool}
/-- One that isn't pure stores, or calls another one that isn't. -/
theorem Tn13.first {k : Nat} (h : Tn13 e n s k) : s k = true ∨ ∃ i, i < n ∧ i ≠ k ∧ e k i = true ∧ Tn13 e n s i := by
  rcases h with h | ⟨j, hl, hj⟩
  · exact .inl h
  · have key : ∀ {a j}, Le11 e n a j → s j = true → s a = true ∨ ∃ i, i < n ∧ i ≠ a ∧ e a i = true ∧ Tn13 e n s i := by
      intro a j hl
      induction hl with
      | @one a j h1 h2 h3 =>
        intro hj
        by_cases hja : j = a
        · rw [hja] at hj; exact .inl hj
        · exact .inr ⟨j, h2, hja, h3, .inl hj⟩
      | @more a i j h1 h2 h3 h4 ih =>
        intro hj
        by_cases hia : i = a
        · subst hia; exact ih hj
        · exact .inr ⟨i, h2, hia, h3, .inr ⟨j, h4, hj⟩⟩
    exact key hl hj
/-- One more stores. -/
theorem tn13_more {k : Nat} (hk : k < n) {i : Nat} : Tn13 e n (fun j => s j || j == k) i ↔ Tn13 e n s i ∨ i = k ∨ Le11 e n i k := by
  unfold Tn13
  constructor
  · rintro (h | ⟨j, h1, h2⟩)
    · rw [Bool.or_eq_true, beq_iff_eq] at h
      rcases h with h | h
      · exact .inl (.inl h)
      · exact .inr (.inl h)
    · rw [Bool.or_eq_true, beq_iff_eq] at h2
      rcases h2 with h2 | h2
      · exact .inl (.inr ⟨j, h1, h2⟩)
      · subst h2; exact .inr (.inr h1)
  · rintro ((h | ⟨j, h1, h2⟩) | h | h)
    · exact .inl (by simp only [h]; rfl)
    · exact .inr ⟨j, h1, by simp only [h2]; rfl⟩
    · exact .inl (by simp [h])
    · exact .inr ⟨k, h, by simp⟩
theorem Tn13.cong {s' : Nat → Bool} (h : ∀ k, k < n → s k = s' k) {k : Nat} (hk : k < n) : Tn13 e n s k ↔ Tn13 e n s' k := by
  unfold Tn13
  rw [h k hk]
  constructor
  · rintro (h1 | ⟨j, h1, h2⟩)
    · exact .inl h1
    · exact .inr ⟨j, h1, by rw [← h j h1.lt.2]; exact h2⟩
  · rintro (h1 | ⟨j, h1, h2⟩)
    · exact .inl h1
    · exact .inr ⟨j, h1, by rw [h j h1.lt.2]; exact h2⟩
end
/-- Does the method k store? -/
def so13 (d : Md) (k : Nat) : Bool := st13 (co11 d k)
def hd13 (d : Md) (k : Nat) : Mh := (d.s[k]?.getD (Mh.zero, [])).1
/-- Does it say that it reads? -/
def re13 (d : Md) (k : Nat) : Bool := (hd13 d k).q
/-- Is it pure? -/
def o013 (d : Md) : List Bool := (List.range d.s.length).map fun k => !so13 d k
def pu13 (d : Md) (k : Nat) : Bool := bt13 (tt13 (e11 d) d.s.length (o013 d) (d.s.length + 1)) k || decide (d.s.length ≤ k)
theorem o013_len (d : Md) : (o013 d).length = d.s.length := by simp [o013]
theorem o013_at {d : Md} {k : Nat} (hk : k < d.s.length) : bt13 (o013 d) k = !so13 d k := by
  rw [bt13, o013, List.getElem?_map, List.getElem?_range hk]
  rfl
theorem pu13_iff {d : Md} {k : Nat} (hk : k < d.s.length) : pu13 d k = true ↔ ¬ Tn13 (e11 d) d.s.length (so13 d) k := by
  have h1 : decide (d.s.length ≤ k) = false := by simp; omega
  rw [pu13, h1, Bool.or_false]
  exact tt13_pure (o013_len d) (fun k hk => o013_at hk) hk
theorem pu13_no {d : Md} {k : Nat} (hk : k < d.s.length) : pu13 d k = false ↔ Tn13 (e11 d) d.s.length (so13 d) k := by
  rw [← Bool.not_eq_true, pu13_iff hk, Classical.not_not]
/-- Do the methods say well? -/
def sd13 (d : Md) : Bool := (List.range d.s.length).all fun k => !re13 d k || (!so13 d k && (List.range d.s.length).all fun i => !e11 d k i || re13 d i)
theorem sd13_iff {d : Md} : sd13 d = true ↔ ∀ k, k < d.s.length → re13 d k = true → so13 d k = false ∧ ∀ i, i < d.s.length → e11 d k i = true → re13 d i = true := by
  unfold sd13
  simp only [List.all_eq_true, List.mem_range, Bool.or_eq_true, Bool.not_eq_true', Bool.and_eq_true]
  constructor
  · intro h k hk hr
    rcases h k hk with h1 | ⟨h1, h2⟩
    · rw [hr] at h1; cases h1
    · refine ⟨h1, fun i hi he => ?_⟩
      rcases h2 i hi with h3 | h3
      · rw [he] at h3; cases h3
      · exact h3
  · intro h k hk
    cases hr : re13 d k with
    | false => exact .inl rfl
    | true =>
      obtain ⟨h1, h2⟩ := h k hk hr
      refine .inr ⟨h1, fun i hi => ?_⟩
      cases he : e11 d k i with
      | false => exact .inl rfl
      | true => exact .inr (h2 i hi he)
/-- What the functions tell. -/
def so13T (d : Md) (k : Int) : Bool × Int := if k < 0 ∨ (d.s.length : Int) ≤ k then (false, 2) else (so13 d k.toNat, 0)
def ch13 (d : Md) : Int := if ba11 d = true then 2 else if sd13 d = true then 0 else 130
def pu13T (d : Md) : List Bool × Int := if ba11 d = true then ([], 2) else ((List.range d.s.length).map (pu13 d), 0)
/-- The module whose methods say so by f. -/
def sy13 (d : Md) (f : Nat → Bool) : Md := { d with s := (List.range d.s.length).map fun k => ({ hd13 d k with q := f k }, co11 d k) }
def sy13T (d : Md) : Md × Int := if ba11 d = true then (Md.zero, 2) else (sy13 d (pu13 d), 0)
theorem sy13_len (d : Md) (f : Nat → Bool) : (sy13 d f).s.length = d.s.length := by simp [sy13]
theorem sy13_at {d : Md} {f : Nat → Bool} {k : Nat} (hk : k < d.s.length) : (sy13 d f).s[k]? = some ({ hd13 d k with q := f k }, co11 d k) := by
  simp only [sy13]
  rw [List.getElem?_map, List.getElem?_range hk]
  rfl
theorem sy13_co (d : Md) (f : Nat → Bool) (k : Nat) : co11 (sy13 d f) k = co11 d k := by
  by_cases hk : k < d.s.length
  · rw [co11, sy13_at hk]; rfl
  · rw [co11, co11, List.getElem?_eq_none (by rw [sy13_len]; omega), List.getElem?_eq_none (by omega)]
theorem sy13_re {d : Md} {f : Nat → Bool} {k : Nat} (hk : k < d.s.length) : re13 (sy13 d f) k = f k := by
  rw [re13, hd13, sy13_at hk]; rfl
theorem sy13_e (d : Md) (f : Nat → Bool) : e11 (sy13 d f) = e11 d := by
  funext k j
  rw [e11, e11, sy13_co]
theorem sy13_so (d : Md) (f : Nat → Bool) : so13 (sy13 d f) = so13 d := by
  funext k
  rw [so13, so13, sy13_co]
theorem ba13_cong {d d' : Md} (hl : d'.s.length = d.s.length) (h : ∀ k, k < d.s.length → bd11 (co11 d' k) d.s.length = bd11 (co11 d k) d.s.length) : ba11 d' = ba11 d := by
  cases hb : ba11 d with
  | false =>
    refine ba11_of fun k hk => ?_
    rw [hl] at hk ⊢
    rw [h k hk]
    exact ba11_at hb hk
  | true =>
    cases hb' : ba11 d' with
    | true => rfl
    | false =>
      have : ba11 d = false := ba11_of fun k hk => by
        have h1 := ba11_at hb' (k := k) (by rw [hl]; exact hk)
        rw [hl, h k hk] at h1
        exact h1
      rw [hb] at this
      cases this
theorem sy13_ba (d : Md) (f : Nat → Bool) : ba11 (sy13 d f) = ba11 d := ba13_cong (sy13_len d f) fun k hk => by rw [sy13_co]
theorem sd13_sy {d : Md} {f : Nat → Bool} : sd13 (sy13 d f) = true ↔ ∀ k, k < d.s.length → f k = true → so13 d k = false ∧ ∀ i, i < d.s.length → e11 d k i = true → f i = true := by
  rw [sd13_iff, sy13_len, sy13_e, sy13_so]
  constructor
  · intro h k hk hf
    obtain ⟨h1, h2⟩ := h k hk (by rw [sy13_re hk]; exact hf)
    exact ⟨h1, fun i hi he => by have := h2 i hi he; rwa [sy13_re hi] at this⟩
  · intro h k hk hf
    rw [sy13_re hk] at hf
    obtain ⟨h1, h2⟩ := h k hk hf
    exact ⟨h1, fun i hi he => by rw [sy13_re hi]; exact h2 i hi he⟩
/-- Where they say well, each one that says so is pure. -/
theorem sd13_pure {d : Md} (h : sd13 d = true) {k : Nat} (hk : k < d.s.length) (hr : re13 d k = true) : pu13 d k = true := by
  rw [sd13_iff] at h
  exact (pu13_iff hk).2 (tn13_no (P := fun k => re13 d k = true) (fun k hk hr => (h k hk hr).1) (fun k i hk hi he hr => (h k hk hr).2 i hi he) hk hr)
theorem sd13_leads {d : Md} (h : sd13 d = true) {k j : Nat} (hr : re13 d k = true) (hl : Le11 (e11 d) d.s.length k j) : re13 d j = true := by
  rw [sd13_iff] at h
  induction hl with
  | one a b c => exact (h _ a hr).2 _ b c
  | more a b c _ ih => exact ih ((h _ a hr).2 _ b c)
/-- Where just the pure ones say so, they say well. -/
theorem sd13_say (d : Md) : sd13 (sy13 d (pu13 d)) = true := by
  rw [sd13_sy]
  intro k hk hp
  rw [pu13_iff hk] at hp
  refine ⟨?_, fun i hi he => ?_⟩
  · cases hs : so13 d k with
    | false => rfl
    | true => exact absurd (.inl hs) hp
  · exact (pu13_iff hi).2 fun h => hp (Tn13.call hk hi he h)
/-- Where one more says so, they don't. -/
theorem sd13_one {d : Md} {k : Nat} (hk : k < d.s.length) (h : pu13 d k = false) : sd13 (sy13 d fun j => pu13 d j || j == k) = false := by
  cases hc : sd13 (sy13 d fun j => pu13 d j || j == k) with
  | false => rfl
  | true =>
    rw [sd13_sy] at hc
    obtain ⟨h1, h2⟩ := hc k hk (by simp)
    rcases ((pu13_no hk).1 h).first with h3 | ⟨i, hi, hik, he, ht⟩
    · rw [h1] at h3; cases h3
    · have h4 := h2 i hi he
      rw [Bool.or_eq_true, beq_iff_eq] at h4
      rcases h4 with h4 | h4
      · exact absurd ht ((pu13_iff hi).1 h4)
      · exact absurd h4 hik
/-- The method k has one more instruction that stores. -/
def ms13 (d : Md) (k : Nat) : Md := { d with s := d.s.set k (hd13 d k, co11 d k ++ [(5, 0, 0)]) }
theorem ms13_len (d : Md) (k : Nat) : (ms13 d k).s.length = d.s.length := by simp [ms13]
theorem ms13_co {d : Md} {k : Nat} (hk : k < d.s.length) (j : Nat) : co11 (ms13 d k) j = if j = k then co11 d k ++ [(5, 0, 0)] else co11 d j := by
  unfold ms13
  by_cases h : j = k
  · subst h
    rw [co11, List.getElem?_set_self hk, if_pos rfl]; rfl
  · rw [co11, List.getElem?_set_ne (fun e => h e.symm), if_neg h, co11]
theorem ms13_e {d : Md} {k : Nat} (hk : k < d.s.length) : e11 (ms13 d k) = e11 d := by
  funext a j
  rw [e11, e11, ms13_co hk]
  split
  · rename_i h
    subst h
    simp [cl11]
  · rfl
theorem ms13_ba {d : Md} {k : Nat} (hk : k < d.s.length) : ba11 (ms13 d k) = ba11 d := ba13_cong (ms13_len d k) fun j hj => by
  rw [ms13_co hk]
  split
  · rename_i h
    subst h
    simp [bd11]
  · rfl
theorem ms13_so {d : Md} {k : Nat} (hk : k < d.s.length) (j : Nat) : so13 (ms13 d k) j = (so13 d j || j == k) := by
  rw [so13, so13, ms13_co hk]
  split
  · rename_i h
    subst h
    simp [st13]
  · rename_i h
    have : (j == k) = false := by simpa using h
    rw [this, Bool.or_false]
theorem ms13_pure {d : Md} {k i : Nat} (hk : k < d.s.length) (hi : i < d.s.length) : pu13 (ms13 d k) i = true ↔ pu13 d i = true ∧ i ≠ k ∧ ¬ Le11 (e11 d) d.s.length i k := by
  have hs : so13 (ms13 d k) = fun j => so13 d j || j == k := funext fun j => ms13_so hk j
  rw [pu13_iff (by rw [ms13_len]; exact hi), pu13_iff hi, ms13_len, ms13_e hk, hs, tn13_more hk]
  constructor
  · intro h
    exact ⟨fun h1 => h (.inl h1), fun h1 => h (.inr (.inl h1)), fun h1 => h (.inr (.inr h1))⟩
  · rintro ⟨h1, h2, h3⟩ (h | h | h)
    · exact h1 h
    · exact h2 h
    · exact h3 h
/-- The rounds that the reference goes. -/
theorem tt13_pu {d : Md} {o : List Bool} (ho : o.length = d.s.length) (h0 : ∀ k, k < d.s.length → bt13 o k = !so13 d k) : tt13 (e11 d) d.s.length o (d.s.length + 1) = (List.range d.s.length).map (pu13 d) := by
  apply bt13_ext (by rw [tt13_len, ho]; simp)
  intro k
  by_cases hk : k < d.s.length
  · rw [bt13, bt13, List.getElem?_map, List.getElem?_range hk]
    have h1 := tt13_pure (e := e11 d) ho h0 hk
    rw [← pu13_iff hk] at h1
    exact Bool.eq_iff_iff.2 h1
  · rw [bt13_out (by rw [tt13_len]; omega), bt13_out (by simp; omega)]
end Go.Proofs.Ytimjnmkfbdijeaa
