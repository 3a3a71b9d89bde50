/-
  Flow, on lists alone: loops, times, ways, by definition; whichever way is gone, each place is come to at most so often as is told.
-/
import Derived.Test.YtfchdggefedgoaaLg
namespace Go.Proofs.Ytfchdggefedgoaa
open Go.RowKit
set_option maxRecDepth 100000
set_option linter.unusedSimpArgs false
set_option linter.unusedVariables false

/-- A loop: from, to, turns. -/
abbrev Lp := Nat × Nat × Int
def wi9 (x : Lp) (p : Nat) : Bool := decide (x.1 < p) && decide (p ≤ x.2.1)
def K9 (x : Lp) : Nat := x.2.2.toNat
def pr9 : List Lp → Nat
  | [] => 1
  | x :: xs => K9 x * pr9 xs
/-- How often the place q may have been come to, at the place p, with so many turns left. -/
def va9 (lf : Nat → Nat) (p q : Nat) : List Lp → Nat
  | [] => if q < p then 1 else 0
  | x :: xs => if wi9 x p = true then (K9 x - lf x.1) * pr9 xs + va9 lf p q xs else (if q < p then K9 x * pr9 xs else 0)
theorem wi9_iff {x : Lp} {p : Nat} : wi9 x p = true ↔ x.1 < p ∧ p ≤ x.2.1 := by simp [wi9]
section
variable {lf lf' : Nat → Nat} {p p' q : Nat}
/-- Turns are left of each loop around p. -/
def Tl9 (lf : Nat → Nat) (p : Nat) (xs : List Lp) : Prop := ∀ x ∈ xs, wi9 x p = true → 1 ≤ lf x.1 ∧ lf x.1 ≤ K9 x
theorem mul_sub_le {K l P v : Nat} (h1 : 1 ≤ l) (h2 : l ≤ K) (hv : v ≤ P) : (K - l) * P + v ≤ K * P := by
  obtain ⟨k, rfl⟩ : ∃ k, K = l + k := ⟨K - l, by omega⟩
  rw [Nat.add_sub_cancel_left, Nat.add_mul]
  have : 1 * P ≤ l * P := Nat.mul_le_mul_right _ h1
  omega
theorem va9_le : ∀ (xs : List Lp), (∀ x ∈ xs, wi9 x q = true) → Tl9 lf p xs → va9 lf p q xs + (if q = p then 1 else 0) ≤ pr9 xs
  | [], _, _ => by
    simp only [va9, pr9]
    split <;> split <;> omega
  | x :: xs, hq, ht => by
    have ih := va9_le xs (fun y hy => hq y (List.mem_cons_of_mem _ hy)) (fun y hy => ht y (List.mem_cons_of_mem _ hy))
    simp only [va9, pr9]
    by_cases hw : wi9 x p = true
    · rw [if_pos hw]
      obtain ⟨h1, h2⟩ := ht x List.mem_cons_self hw
      have := mul_sub_le h1 h2 ih
      omega
    · rw [if_neg hw]
      have hne : q ≠ p := fun e => hw (e ▸ hq x List.mem_cons_self)
      rw [if_neg hne]
      split <;> omega
/-- A step to a place behind. -/
theorem va9_fwd (hp : p < p') : ∀ (xs : List Lp), (∀ x ∈ xs, wi9 x q = true) → Tl9 lf p xs → (∀ x ∈ xs, wi9 x p = true → wi9 x p' = true → lf' x.1 = lf x.1) → (∀ x ∈ xs, wi9 x p' = true → wi9 x p = true ∨ x.1 = p) →
    va9 lf p q xs + (if q = p then 1 else 0) ≤ va9 lf' p' q xs
  | [], _, _, _, _ => by
    simp only [va9]
    split <;> split <;> split <;> omega
  | x :: xs, hq, ht, hs, he => by
    have ih := va9_fwd hp xs (fun y hy => hq y (List.mem_cons_of_mem _ hy)) (fun y hy => ht y (List.mem_cons_of_mem _ hy)) (fun y hy => hs y (List.mem_cons_of_mem _ hy)) (fun y hy => he y (List.mem_cons_of_mem _ hy))
    have hqx := hq x List.mem_cons_self
    have hb := va9_le (lf := lf) (p := p) xs (fun y hy => hq y (List.mem_cons_of_mem _ hy)) (fun y hy => ht y (List.mem_cons_of_mem _ hy))
    simp only [va9]
    by_cases hw : wi9 x p = true
    · rw [if_pos hw]
      by_cases hw' : wi9 x p' = true
      · rw [if_pos hw', hs x List.mem_cons_self hw hw']
        omega
      · rw [if_neg hw']
        obtain ⟨h1, h2⟩ := ht x List.mem_cons_self hw
        have h3 := mul_sub_le h1 h2 hb
        have h4 : q < p' := by
          rw [wi9_iff] at hqx hw hw'
          omega
        rw [if_pos h4]
        omega
    · rw [if_neg hw]
      have hne : q ≠ p := fun e => hw (e ▸ hqx)
      rw [if_neg hne]
      by_cases hw' : wi9 x p' = true
      · rcases he x List.mem_cons_self hw' with h | h
        · exact absurd h hw
        · rw [wi9_iff] at hqx
          rw [if_neg (by omega)]
          omega
      · rw [if_neg hw']
        split <;> split <;> omega
/-- Another turn of a loop that isn't around q. -/
theorem va9_off {x0 : Lp} (hp : p = x0.2.1) (hp' : p' = x0.1 + 1) (h0 : x0.1 < x0.2.1) (ho : ∀ f, f ≠ x0.1 → lf' f = lf f) (hq0 : wi9 x0 q = false) :
    ∀ (xs : List Lp), (∀ x ∈ xs, wi9 x q = true) → (∀ x ∈ xs, wi9 x p = wi9 x p') → (∀ x ∈ xs, x.1 = x0.1 → x = x0) → va9 lf p q xs + (if q = p then 1 else 0) = va9 lf' p' q xs
  | [], _, _, _ => by
    simp only [va9]
    have : ¬(x0.1 < q ∧ q ≤ x0.2.1) := by rw [← wi9_iff, hq0]; simp
    split <;> split <;> split <;> omega
  | x :: xs, hq, hs, hu => by
    have hqx := hq x List.mem_cons_self
    have e : x ≠ x0 := fun h => by rw [h, hq0] at hqx; cases hqx
    have ih := va9_off hp hp' h0 ho hq0 xs (fun y hy => hq y (List.mem_cons_of_mem _ hy)) (fun y hy => hs y (List.mem_cons_of_mem _ hy)) (fun y hy => hu y (List.mem_cons_of_mem _ hy))
    simp only [va9]
    rw [← hs x List.mem_cons_self, ho _ (fun h => e (hu x List.mem_cons_self h))]
    have : ¬(x0.1 < q ∧ q ≤ x0.2.1) := by rw [← wi9_iff, hq0]; simp
    have hnp : q ≠ p := by omega
    rw [if_neg hnp] at ih ⊢
    by_cases hw : wi9 x p = true
    · rw [if_pos hw, if_pos hw]
      omega
    · rw [if_neg hw, if_neg hw]
      split <;> split <;> omega
/-- Another turn of a loop. -/
theorem va9_back {x0 : Lp} (hp : p = x0.2.1) (hp' : p' = x0.1 + 1) (h0 : x0.1 < x0.2.1) (h2 : 2 ≤ lf x0.1) (hl : lf' x0.1 = lf x0.1 - 1) (ho : ∀ f, f ≠ x0.1 → lf' f = lf f) :
    ∀ (ys bs : List Lp), (∀ x ∈ ys ++ x0 :: bs, wi9 x q = true) → Tl9 lf p (ys ++ x0 :: bs) → (∀ x ∈ ys, wi9 x p = true ∧ wi9 x p' = true ∧ x.1 ≠ x0.1) →
    va9 lf p q (ys ++ x0 :: bs) + (if q = p then 1 else 0) ≤ va9 lf' p' q (ys ++ x0 :: bs)
  | [], bs, hq, ht, _ => by
    rw [List.nil_append] at hq ht ⊢
    have hb := va9_le (lf := lf) (p := p) bs (fun y hy => hq y (List.mem_cons_of_mem _ hy)) (fun y hy => ht y (List.mem_cons_of_mem _ hy))
    have hw : wi9 x0 p = true := by rw [wi9_iff]; omega
    have hw' : wi9 x0 p' = true := by rw [wi9_iff]; omega
    obtain ⟨h1, h3⟩ := ht x0 List.mem_cons_self hw
    simp only [va9]
    rw [if_pos hw, if_pos hw', hl]
    have : K9 x0 - (lf x0.1 - 1) = (K9 x0 - lf x0.1) + 1 := by omega
    rw [this, Nat.add_mul]
    omega
  | x :: ys, bs, hq, ht, ha => by
    have ih := va9_back hp hp' h0 h2 hl ho ys bs (fun y hy => hq y (List.mem_cons_of_mem _ hy)) (fun y hy => ht y (List.mem_cons_of_mem _ hy)) (fun y hy => ha y (List.mem_cons_of_mem _ hy))
    obtain ⟨hw, hw', hne⟩ := ha x List.mem_cons_self
    rw [List.cons_append]
    simp only [va9]
    rw [if_pos hw, if_pos hw', ho _ hne]
    omega
/-- What is known where no loop is around p. -/
theorem va9_none : ∀ (xs : List Lp), (∀ x ∈ xs, wi9 x p = false) → va9 lf p q xs = if q < p then pr9 xs else 0
  | [], _ => rfl
  | x :: xs, h => by
    simp only [va9, pr9]
    rw [if_neg (by rw [h x List.mem_cons_self]; simp)]
/-- A step to the next place, just as often. -/
theorem va9_next : ∀ (xs : List Lp), (∀ x ∈ xs, wi9 x q = true) → Tl9 lf p xs → (∀ x ∈ xs, wi9 x p = true → x.2.1 = p → lf x.1 = 1) → (∀ x ∈ xs, wi9 x p = true → wi9 x (p + 1) = true → lf' x.1 = lf x.1) → (∀ x ∈ xs, x.1 = p → lf' x.1 = K9 x) →
    xs.Pairwise (fun x z => (wi9 x p = true → x.2.1 = p → wi9 z p = false) ∧ (x.1 = p → p < z.1)) → va9 lf p q xs + (if q = p then 1 else 0) = va9 lf' (p + 1) q xs
  | [], _, _, _, _, _, _ => by
    simp only [va9]
    split <;> split <;> split <;> omega
  | x :: xs, hq, ht, h1, hs, he, hw2 => by
    have hqx := hq x List.mem_cons_self
    obtain ⟨hp1, hp2⟩ := List.pairwise_cons.1 hw2
    have ih := va9_next xs (fun y hy => hq y (List.mem_cons_of_mem _ hy)) (fun y hy => ht y (List.mem_cons_of_mem _ hy)) (fun y hy => h1 y (List.mem_cons_of_mem _ hy)) (fun y hy => hs y (List.mem_cons_of_mem _ hy)) (fun y hy => he y (List.mem_cons_of_mem _ hy)) hp2
    simp only [va9]
    by_cases hw : wi9 x p = true
    · rw [if_pos hw]
      by_cases hw' : wi9 x (p + 1) = true
      · rw [if_pos hw', hs x List.mem_cons_self hw hw']
        omega
      · rw [if_neg hw']
        have hT : x.2.1 = p := by rw [wi9_iff] at hw hw'; omega
        have hn : ∀ z ∈ xs, wi9 z p = false := fun z hz => (hp1 z hz).1 hw hT
        obtain ⟨h3, h4⟩ := ht x List.mem_cons_self hw
        have h5 := h1 x List.mem_cons_self hw hT
        rw [va9_none xs hn, h5]
        rw [wi9_iff] at hqx
        obtain ⟨k, hk⟩ : ∃ k, K9 x = k + 1 := ⟨K9 x - 1, by omega⟩
        rw [hk, Nat.add_sub_cancel, Nat.add_mul, if_pos (show q < p + 1 by omega)]
        by_cases hqp : q = p
        · have h0 : xs = [] := by
            cases xs with
            | nil => rfl
            | cons z zs =>
              have a1 := hn z List.mem_cons_self
              have a2 := hq z (List.mem_cons_of_mem _ List.mem_cons_self)
              rw [hqp, a1] at a2
              cases a2
          subst h0
          rw [if_pos hqp, if_neg (by omega)]
          simp [pr9]
        · rw [if_neg hqp, if_pos (by omega)]
          omega
    · rw [if_neg hw]
      have hne : q ≠ p := fun e => hw (e ▸ hqx)
      rw [if_neg hne]
      by_cases hw' : wi9 x (p + 1) = true
      · have hF : x.1 = p := by rw [wi9_iff] at hw hw'; omega
        rw [if_pos hw', he x List.mem_cons_self hF, Nat.sub_self, va9_none xs (fun z hz => by
          have := (hp1 z hz).2 hF
          cases h : wi9 z (p + 1) with
          | false => rfl
          | true => rw [wi9_iff] at h; omega)]
        rw [wi9_iff] at hqx
        rw [if_neg (by omega), if_neg (by omega)]
        omega
      · rw [if_neg hw']
        split <;> split <;> omega
/-- Another turn, just as often. -/
theorem va9_turn {x0 : Lp} (hp : p = x0.2.1) (hp' : p' = x0.1 + 1) (h0 : x0.1 < x0.2.1) (h2 : 2 ≤ lf x0.1) (hl : lf' x0.1 = lf x0.1 - 1) (ho : ∀ f, f ≠ x0.1 → lf' f = lf f) :
    ∀ (ys bs : List Lp), (∀ x ∈ ys ++ x0 :: bs, wi9 x q = true) → Tl9 lf p (ys ++ x0 :: bs) → (∀ x ∈ ys, wi9 x p = true ∧ wi9 x p' = true ∧ x.1 ≠ x0.1) → (∀ x ∈ bs, wi9 x p = false ∧ wi9 x p' = false) →
    va9 lf p q (ys ++ x0 :: bs) + (if q = p then 1 else 0) = va9 lf' p' q (ys ++ x0 :: bs)
  | [], bs, hq, ht, _, hn => by
    rw [List.nil_append] at hq ht ⊢
    have hw : wi9 x0 p = true := by rw [wi9_iff]; omega
    have hw' : wi9 x0 p' = true := by rw [wi9_iff]; omega
    obtain ⟨h1, h3⟩ := ht x0 List.mem_cons_self hw
    have hqx := hq x0 List.mem_cons_self
    rw [wi9_iff] at hqx
    simp only [va9]
    rw [if_pos hw, if_pos hw', hl, va9_none bs (fun z hz => (hn z hz).1), va9_none bs (fun z hz => (hn z hz).2)]
    have : K9 x0 - (lf x0.1 - 1) = (K9 x0 - lf x0.1) + 1 := by omega
    rw [this, Nat.add_mul, if_neg (show ¬ q < p' by omega)]
    by_cases hqp : q = p
    · have hb : bs = [] := by
        cases bs with
        | nil => rfl
        | cons z zs =>
          have a1 := (hn z List.mem_cons_self).1
          have a2 := hq z (List.mem_cons_of_mem _ List.mem_cons_self)
          rw [hqp, a1] at a2
          cases a2
      subst hb
      rw [if_pos hqp, if_neg (by omega)]
      simp [pr9]
    · rw [if_neg hqp, if_pos (by omega)]
      omega
  | x :: ys, bs, hq, ht, ha, hn => by
    have ih := va9_turn hp hp' h0 h2 hl ho ys bs (fun y hy => hq y (List.mem_cons_of_mem _ hy)) (fun y hy => ht y (List.mem_cons_of_mem _ hy)) (fun y hy => ha y (List.mem_cons_of_mem _ hy)) hn
    obtain ⟨hw, hw', hne⟩ := ha x List.mem_cons_self
    rw [List.cons_append]
    simp only [va9]
    rw [if_pos hw, if_pos hw', ho _ hne]
    omega
/-- At a place all of whose loops have one turn, each place ahead was come to as often as is told. -/
theorem va9_end (hqp : q < p) : ∀ (xs : List Lp), Tl9 lf p xs → (∀ x ∈ xs, wi9 x p = true → K9 x = 1) → va9 lf p q xs = pr9 xs
  | [], _, _ => by
    simp only [va9, pr9]
    rw [if_pos hqp]
  | x :: xs, ht, hk => by
    have ih := va9_end hqp xs (fun y hy => ht y (List.mem_cons_of_mem _ hy)) (fun y hy => hk y (List.mem_cons_of_mem _ hy))
    simp only [va9, pr9]
    by_cases hw : wi9 x p = true
    · obtain ⟨h1, h2⟩ := ht x List.mem_cons_self hw
      have h3 := hk x List.mem_cons_self hw
      rw [if_pos hw, ih, h3, show (1 : Nat) - lf x.1 = 0 by omega]
      omega
    · rw [if_neg hw, if_pos hqp]
end
end Go.Proofs.Ytfchdggefedgoaa
