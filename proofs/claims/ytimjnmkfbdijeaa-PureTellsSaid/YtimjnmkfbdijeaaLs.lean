/-
  Fl, Fm, Fn: in one text.
-/
import Derived.Test.YtimjnmkfbdijeaaLg
namespace Go.Proofs.Ytimjnmkfbdijeaa
open Go.RowKit
set_option maxRecDepth 100000
set_option linter.unusedSimpArgs false
set_option linter.unusedVariables false

/-- A loop: from, to, turns. -/
abbrev Lp := Nat × Nat × Int
def wi9 (x : Lp) (p : Nat) : Bool := decide (x.1 < p) && decide (p ≤ x.2.1)
def K9 (x : Lp) : Nat := x.2.2.toNat
def pr9 : List Lp → Nat
  | [] => 1
  | x :: xs => K9 x * pr9 xs
/-- How often the place q may have been come to, at the place p, with so many turns left. -/
def va9 (lf : Nat → Nat) (p q : Nat) : List Lp → Nat
  | [] => if q < p then 1 else 0
  | x :: xs => if wi9 x p = true then (K9 x - lf x.1) * pr9 xs + va9 lf p q xs else (if q < p then K9 x * pr9 xs else 0)
theorem wi9_iff {x : Lp} {p : Nat} : wi9 x p = true ↔ x.1 < p ∧ p ≤ x.2.1 := by simp [wi9]
section
variable {lf lf' : Nat → Nat} {p p' q : Nat}
/-- Turns are left of each loop around p. -/
def Tl9 (lf : Nat → Nat) (p : Nat) (xs : List Lp) : Prop := ∀ x ∈ xs, wi9 x p = true → 1 ≤ lf x.1 ∧ lf x.1 ≤ K9 x
theorem mul_sub_le {K l P v : Nat} (h1 : 1 ≤ l) (h2 : l ≤ K) (hv : v ≤ P) : (K - l) * P + v ≤ K * P := by
  obtain ⟨k, rfl⟩ : ∃ k, K = l + k := ⟨K - l, by omega⟩
  rw [Nat.add_sub_cancel_left, Nat.add_mul]
  have : 1 * P ≤ l * P := Nat.mul_le_mul_right _ h1
  omega
theorem va9_le : ∀ (xs : List Lp), (∀ x ∈ xs, wi9 x q = true) → Tl9 lf p xs → va9 lf p q xs + (if q = p then 1 else 0) ≤ pr9 xs
  | [], _, _ => by
    simp only [va9, pr9]
    split <;> split <;> omega
  | x :: xs, hq, ht => by
    have ih := va9_le xs (fun y hy => hq y (List.mem_cons_of_mem _ hy)) (fun y hy => ht y (List.mem_cons_of_mem _ hy))
    simp only [va9, pr9]
    by_cases hw : wi9 x p = true
    · rw [if_pos hw]
      obtain ⟨h1, h2⟩ := ht x List.mem_cons_self hw
      have := mul_sub_le h1 h2 ih
      omega
    · rw [if_neg hw]
      have hne : q ≠ p := fun e => hw (e ▸ hq x List.mem_cons_self)
      rw [if_neg hne]
      split <;> omega
/-- A step to a place behind. -/
theorem va9_fwd (hp : p < p') : ∀ (xs : List Lp), (∀ x ∈ xs, wi9 x q = true) → Tl9 lf p xs → (∀ x ∈ xs, wi9 x p = true → wi9 x p' = true → lf' x.1 = lf x.1) → (∀ x ∈ xs, wi9 x p' = true → wi9 x p = true ∨ x.1 = p) →
    va9 lf p q xs + (if q = p then 1 else 0) ≤ va9 lf' p' q xs
  | [], _, _, _, _ => by
    simp only [va9]
    split <;> split <;> split <;> omega
  | x :: xs, hq, ht, hs, he => by
    have ih := va9_fwd hp xs (fun y hy => hq y (List.mem_cons_of_mem _ hy)) (fun y hy => ht y (List.mem_cons_of_mem _ hy)) (fun y hy => hs y (List.mem_cons_of_mem _ hy)) (fun y hy => he y (List.mem_cons_of_mem _ hy))
    have hqx := hq x List.mem_cons_self
    have hb := va9_le (lf := lf) (p := p) xs (fun y hy => hq y (List.mem_cons_of_mem _ hy)) (fun y hy => ht y (List.mem_cons_of_mem _ hy))
    simp only [va9]
    by_cases hw : wi9 x p = true
    · rw [if_pos hw]
      by_cases hw' : wi9 x p' = true
      · rw [if_pos hw', hs x List.mem_cons_self hw hw']
        omega
      · rw [if_neg hw']
        obtain ⟨h1, h2⟩ := ht x List.mem_cons_self hw
        have h3 := mul_sub_le h1 h2 hb
        have h4 : q < p' := by
          rw [wi9_iff] at hqx hw hw'
          omega
        rw [if_pos h4]
        omega
    · rw [if_neg hw]
      have hne : q ≠ p := fun e => hw (e ▸ hqx)
      rw [if_neg hne]
      by_cases hw' : wi9 x p' = true
      · rcases he x List.mem_cons_self hw' with h | h
        · exact absurd h hw
        · rw [wi9_iff] at hqx
          rw [if_neg (by omega)]
          omega
      · rw [if_neg hw']
        split <;> split <;> omega
/-- Another turn of a loop that isn't around q. -/
theorem va9_off {x0 : Lp} (hp : p = x0.2.1) (hp' : p' = x0.1 + 1) (h0 : x0.1 < x0.2.1) (ho : ∀ f, f ≠ x0.1 → lf' f = lf f) (hq0 : wi9 x0 q = false) :
    ∀ (xs : List Lp), (∀ x ∈ xs, wi9 x q = true) → (∀ x ∈ xs, wi9 x p = wi9 x p') → (∀ x ∈ xs, x.1 = x0.1 → x = x0) → va9 lf p q xs + (if q = p then 1 else 0) = va9 lf' p' q xs
  | [], _, _, _ => by
    simp only [va9]
    have : ¬(x0.1 < q ∧ q ≤ x0.2.1) := by rw [← wi9_iff, hq0]; simp
    split <;> split <;> split <;> omega
  | x :: xs, hq, hs, hu => by
    have hqx := hq x List.mem_cons_self
    have e : x ≠ x0 := fun h => by rw [h, hq0] at hqx; cases hqx
    have ih := va9_off hp hp' h0 ho hq0 xs (fun y hy => hq y (List.mem_cons_of_mem _ hy)) (fun y hy => hs y (List.mem_cons_of_mem _ hy)) (fun y hy => hu y (List.mem_cons_of_mem _ hy))
    simp only [va9]
    rw [← hs x List.mem_cons_self, ho _ (fun h => e (hu x List.mem_cons_self h))]
    have : ¬(x0.1 < q ∧ q ≤ x0.2.1) := by rw [← wi9_iff, hq0]; simp
    have hnp : q ≠ p := by omega
    rw [if_neg hnp] at ih ⊢
    by_cases hw : wi9 x p = true
    · rw [if_pos hw, if_pos hw]
      omega
    · rw [if_neg hw, if_neg hw]
      split <;> split <;> omega
/-- Another turn of a loop. -/
theorem va9_back {x0 : Lp} (hp : p = x0.2.1) (hp' : p' = x0.1 + 1) (h0 : x0.1 < x0.2.1) (h2 : 2 ≤ lf x0.1) (hl : lf' x0.1 = lf x0.1 - 1) (ho : ∀ f, f ≠ x0.1 → lf' f = lf f) :
    ∀ (ys bs : List Lp), (∀ x ∈ ys ++ x0 :: bs, wi9 x q = true) → Tl9 lf p (ys ++ x0 :: bs) → (∀ x ∈ ys, wi9 x p = true ∧ wi9 x p' = true ∧ x.1 ≠ x0.1) →
    va9 lf p q (ys ++ x0 :: bs) + (if q = p then 1 else 0) ≤ va9 lf' p' q (ys ++ x0 :: bs)
  | [], bs, hq, ht, _ => by
    rw [List.nil_append] at hq ht ⊢
    have hb := va9_le (lf := lf) (p := p) bs (fun y hy => hq y (List.mem_cons_of_mem _ hy)) (fun y hy => ht y (List.mem_cons_of_mem _ hy))
    have hw : wi9 x0 p = true := by rw [wi9_iff]; omega
    have hw' : wi9 x0 p' = true := by rw [wi9_iff]; omega
    obtain ⟨h1, h3⟩ := ht x0 List.mem_cons_self hw
    simp only [va9]
    rw [if_pos hw, if_pos hw', hl]
    have : K9 x0 - (lf x0.1 - 1) = (K9 x0 - lf x0.1) + 1 := by omega
    rw [this, Nat.add_mul]
    omega
  | x :: ys, bs, hq, ht, ha => by
    have ih := va9_back hp hp' h0 h2 hl ho ys bs (fun y hy => hq y (List.mem_cons_of_mem _ hy)) (fun y hy => ht y (List.mem_cons_of_mem _ hy)) (fun y hy => ha y (List.mem_cons_of_mem _ hy))
    obtain ⟨hw, hw', hne⟩ := ha x List.mem_cons_self
    rw [List.cons_append]
    simp only [va9]
    rw [if_pos hw, if_pos hw', ho _ hne]
    omega
/-- What is known where no loop is around p. -/
theorem va9_none : ∀ (xs : List Lp), (∀ x ∈ xs, wi9 x p = false) → va9 lf p q xs = if q < p then pr9 xs else 0
  | [], _ => rfl
  | x :: xs, h => by
    simp only [va9, pr9]
    rw [if_neg (by rw [h x List.mem_cons_self]; simp)]
/-- A step to the next place, just as often. -/
theorem va9_next : ∀ (xs : List Lp), (∀ x ∈ xs, wi9 x q = true) → Tl9 lf p xs → (∀ x ∈ xs, wi9 x p = true → x.2.1 = p → lf x.1 = 1) → (∀ x ∈ xs, wi9 x p = true → wi9 x (p + 1) = true → lf' x.1 = lf x.1) → (∀ x ∈ xs, x.1 = p → lf' x.1 = K9 x) →
    xs.Pairwise (fun x z => (wi9 x p = true → x.2.1 = p → wi9 z p = false) ∧ (x.1 = p → p < z.1)) → va9 lf p q xs + (if q = p then 1 else 0) = va9 lf' (p + 1) q xs
  | [], _, _, _, _, _, _ => by
    simp only [va9]
    split <;> split <;> split <;> omega
  | x :: xs, hq, ht, h1, hs, he, hw2 => by
    have hqx := hq x List.mem_cons_self
    obtain ⟨hp1, hp2⟩ := List.pairwise_cons.1 hw2
    have ih := va9_next xs (fun y hy => hq y (List.mem_cons_of_mem _ hy)) (fun y hy => ht y (List.mem_cons_of_mem _ hy)) (fun y hy => h1 y (List.mem_cons_of_mem _ hy)) (fun y hy => hs y (List.mem_cons_of_mem _ hy)) (fun y hy => he y (List.mem_cons_of_mem _ hy)) hp2
    simp only [va9]
    by_cases hw : wi9 x p = true
    · rw [if_pos hw]
      by_cases hw' : wi9 x (p + 1) = true
      · rw [if_pos hw', hs x List.mem_cons_self hw hw']
        omega
      · rw [if_neg hw']
        have hT : x.2.1 = p := by rw [wi9_iff] at hw hw'; omega
        have hn : ∀ z ∈ xs, wi9 z p = false := fun z hz => (hp1 z hz).1 hw hT
        obtain ⟨h3, h4⟩ := ht x List.mem_cons_self hw
        have h5 := h1 x List.mem_cons_self hw hT
        rw [va9_none xs hn, h5]
        rw [wi9_iff] at hqx
        obtain ⟨k, hk⟩ : ∃ k, K9 x = k + 1 := ⟨K9 x - 1, by omega⟩
        rw [hk, Nat.add_sub_cancel, Nat.add_mul, if_pos (show q < p + 1 by omega)]
        by_cases hqp : q = p
        · have h0 : xs = [] := by
            cases xs with
            | nil => rfl
            | cons z zs =>
              have a1 := hn z List.mem_cons_self
              have a2 := hq z (List.mem_cons_of_mem _ List.mem_cons_self)
              rw [hqp, a1] at a2
              cases a2
          subst h0
          rw [if_pos hqp, if_neg (by omega)]
          simp [pr9]
        · rw [if_neg hqp, if_pos (by omega)]
          omega
    · rw [if_neg hw]
      have hne : q ≠ p := fun e => hw (e ▸ hqx)
      rw [if_neg hne]
      by_cases hw' : wi9 x (p + 1) = true
      · have hF : x.1 = p := by rw [wi9_iff] at hw hw'; omega
        rw [if_pos hw', he x List.mem_cons_self hF, Nat.sub_self, va9_none xs (fun z hz => by
          have := (hp1 z hz).2 hF
          cases h : wi9 z (p + 1) with
          | false => rfl
          | true => rw [wi9_iff] at h; omega)]
        rw [wi9_iff] at hqx
        rw [if_neg (by omega), if_neg (by omega)]
        omega
      · rw [if_neg hw']
        split <;> split <;> omega
/-- Another turn, just as often. -/
theorem va9_turn {x0 : Lp} (hp : p = x0.2.1) (hp' : p' = x0.1 + 1) (h0 : x0.1 < x0.2.1) (h2 : 2 ≤ lf x0.1) (hl : lf' x0.1 = lf x0.1 - 1) (ho : ∀ f, f ≠ x0.1 → lf' f = lf f) :
    ∀ (ys bs : List Lp), (∀ x ∈ ys ++ x0 :: bs, wi9 x q = true) → Tl9 lf p (ys ++ x0 :: bs) → (∀ x ∈ ys, wi9 x p = true ∧ wi9 x p' = true ∧ x.1 ≠ x0.1) → (∀ x ∈ bs, wi9 x p = false ∧ wi9 x p' = false) →
    va9 lf p q (ys ++ x0 :: bs) + (if q = p then 1 else 0) = va9 lf' p' q (ys ++ x0 :: bs)
  | [], bs, hq, ht, _, hn => by
    rw [List.nil_append] at hq ht ⊢
    have hw : wi9 x0 p = true := by rw [wi9_iff]; omega
    have hw' : wi9 x0 p' = true := by rw [wi9_iff]; omega
    obtain ⟨h1, h3⟩ := ht x0 List.mem_cons_self hw
    have hqx := hq x0 List.mem_cons_self
    rw [wi9_iff] at hqx
    simp only [va9]
    rw [if_pos hw, if_pos hw', hl, va9_none bs (fun z hz => (hn z hz).1), va9_none bs (fun z hz => (hn z hz).2)]
    have : K9 x0 - (lf x0.1 - 1) = (K9 x0 - lf x0.1) + 1 := by omega
    rw [this, Nat.add_mul, if_neg (show ¬ q < p' by omega)]
    by_cases hqp : q = p
    · have hb : bs = [] := by
        cases bs with
        | nil => rfl
        | cons z zs =>
          have a1 := (hn z List.mem_cons_self).1
          have a2 := hq z (List.mem_cons_of_mem _ List.mem_cons_self)
          rw [hqp, a1] at a2
          cases a2
      subst hb
      rw [if_pos hqp, if_neg (by omega)]
      simp [pr9]
    · rw [if_neg hqp, if_pos (by omega)]
      omega
  | x :: ys, bs, hq, ht, ha, hn => by
    have ih := va9_turn hp hp' h0 h2 hl ho ys bs (fun y hy => hq y (List.mem_cons_of_mem _ hy)) (fun y hy => ht y (List.mem_cons_of_mem _ hy)) (fun y hy => ha y (List.mem_cons_of_mem _ hy)) hn
    obtain ⟨hw, hw', hne⟩ := ha x List.mem_cons_self
    rw [List.cons_append]
    simp only [va9]
    rw [if_pos hw, if_pos hw', ho _ hne]
    omega
/-- At a place all of whose loops have one turn, each place ahead was come to as often as is told. -/
theorem va9_end (hqp : q < p) : ∀ (xs : List Lp), Tl9 lf p xs → (∀ x ∈ xs, wi9 x p = true → K9 x = 1) → va9 lf p q xs = pr9 xs
  | [], _, _ => by
    simp only [va9, pr9]
    rw [if_pos hqp]
  | x :: xs, ht, hk => by
    have ih := va9_end hqp xs (fun y hy => ht y (List.mem_cons_of_mem _ hy)) (fun y hy => hk y (List.mem_cons_of_mem _ hy))
    simp only [va9, pr9]
    by_cases hw : wi9 x p = true
    · obtain ⟨h1, h2⟩ := ht x List.mem_cons_self hw
      have h3 := hk x List.mem_cons_self hw
      rw [if_pos hw, ih, h3, show (1 : Nat) - lf x.1 = 0 by omega]
      omega
    · rw [if_neg hw, if_pos hqp]
end
end Go.Proofs.Ytimjnmkfbdijeaa
namespace Go.Proofs.Ytimjnmkfbdijeaa
open Go.RowKit
set_option maxRecDepth 100000
set_option linter.unusedSimpArgs false
set_option linter.unusedVariables false

def iO9 (l : List Ins) (p : Nat) : Int := (l[p]?.getD (0, 0, 0)).1
def iA9 (l : List Ins) (p : Nat) : Int := (l[p]?.getD (0, 0, 0)).2.1
/-- Code that flows well, with its loops. -/
structure Wl9 (l : List Ins) (out : List Lp) : Prop where
  mem : ∀ x ∈ out, x.1 < x.2.1 ∧ x.2.1 < l.length ∧ iO9 l x.1 = 28 ∧ iO9 l x.2.1 = 29 ∧ iA9 l x.2.1 = x.1 ∧ x.2.2 = iA9 l x.1 ∧ 1 ≤ x.2.2 ∧ x.2.2 ≤ 100
  ofL : ∀ p, p < l.length → iO9 l p = 28 → ∃ x ∈ out, x.1 = p
  ofA : ∀ p, p < l.length → iO9 l p = 29 → ∃ x ∈ out, x.2.1 = p
  sorted : out.Pairwise (fun x y => x.1 < y.1)
  nest : ∀ x ∈ out, ∀ y ∈ out, x.1 ≠ y.1 → x.1 < y.2.1 → y.1 < x.2.1 → (wi9 y x.1 = true ∧ wi9 y x.2.1 = true) ∨ (wi9 x y.1 = true ∧ wi9 x y.2.1 = true)
  jump : ∀ p, p < l.length → iO9 l p = 26 ∨ iO9 l p = 27 → (p : Int) < iA9 l p ∧ iA9 l p < l.length ∧ ∀ x ∈ out, wi9 x (iA9 l p).toNat = true → wi9 x p = true
  last : iO9 l (l.length - 1) = 31 ∨ iO9 l (l.length - 1) = 32
  pos : 1 ≤ l.length
/-- The loops around a place. -/
def lq9 (out : List Lp) (q : Nat) : List Lp := out.filter fun x => wi9 x q
theorem mem_lq9 {out : List Lp} {q : Nat} {x : Lp} : x ∈ lq9 out q ↔ x ∈ out ∧ wi9 x q = true := by simp [lq9]
section
variable {l : List Ins} {out : List Lp} {p q : Nat}
theorem Wl9.uniq (h : Wl9 l out) {x y : Lp} (hx : x ∈ out) (hy : y ∈ out) (e : x.1 = y.1) : x = y := by
  obtain ⟨-, -, -, -, h5, -⟩ := h.mem x hx
  by_cases hxy : x = y
  · exact hxy
  · have := h.sorted
    rw [List.pairwise_iff_getElem] at this
    obtain ⟨i, hi, rfl⟩ := List.getElem_of_mem hx
    obtain ⟨j, hj, rfl⟩ := List.getElem_of_mem hy
    rcases Nat.lt_trichotomy i j with hij | rfl | hij
    · have := this i j hi hj hij; omega
    · rfl
    · have := this j i hj hi hij; omega
/-- Where two loops end at one place they are one. -/
theorem Wl9.uniqT (h : Wl9 l out) {x y : Lp} (hx : x ∈ out) (hy : y ∈ out) (e : x.2.1 = y.2.1) : x = y := by
  obtain ⟨-, -, -, -, h5, -⟩ := h.mem x hx
  obtain ⟨-, -, -, -, k5, -⟩ := h.mem y hy
  rw [e, k5] at h5
  exact h.uniq hx hy (by omega)
/-- No loop that begins later is around the place where one ends. -/
theorem Wl9.after (h : Wl9 l out) {x z : Lp} (hx : x ∈ out) (hz : z ∈ out) (hxz : x.1 < z.1) : wi9 z x.2.1 = false := by
  cases hw : wi9 z x.2.1 with
  | false => rfl
  | true =>
    rw [wi9_iff] at hw
    obtain ⟨m1, -⟩ := h.mem x hx
    obtain ⟨m2, -⟩ := h.mem z hz
    rcases h.nest x hx z hz (by omega) (by omega) (by omega) with ⟨a, _⟩ | ⟨_, b⟩
    · rw [wi9_iff] at a; omega
    · rw [wi9_iff] at b
      have := h.uniqT hx hz (by omega)
      subst this
      omega
/-- What is around the end of a loop is around its first place, and the other way about. -/
theorem Wl9.turn (h : Wl9 l out) {x0 x : Lp} (h0 : x0 ∈ out) (hx : x ∈ out) : wi9 x x0.2.1 = wi9 x (x0.1 + 1) := by
  obtain ⟨m1, -⟩ := h.mem x0 h0
  obtain ⟨m2, -⟩ := h.mem x hx
  by_cases e : x.1 = x0.1
  · have := h.uniq hx h0 e
    subst this
    rw [Bool.eq_iff_iff, wi9_iff, wi9_iff]
    omega
  · rw [Bool.eq_iff_iff, wi9_iff, wi9_iff]
    constructor
    · rintro ⟨a, b⟩
      rcases h.nest x hx x0 h0 e (by omega) (by omega) with ⟨c, d⟩ | ⟨c, d⟩
      · rw [wi9_iff] at d
        have := h.uniqT hx h0 (by omega)
        subst this
        exact absurd rfl e
      · rw [wi9_iff] at c; omega
    · rintro ⟨a, b⟩
      rcases h.nest x hx x0 h0 e (by omega) (by omega) with ⟨c, d⟩ | ⟨c, d⟩
      · rw [wi9_iff] at c; omega
      · rw [wi9_iff] at d; omega
theorem Wl9.pair (h : Wl9 l out) (q : Nat) : (lq9 out q).Pairwise (fun x z => (wi9 x p = true → x.2.1 = p → wi9 z p = false) ∧ (x.1 = p → p < z.1)) := by
  unfold lq9
  refine List.Pairwise.filter _ ?_
  have := h.sorted
  rw [List.pairwise_iff_getElem] at this ⊢
  intro i j hi hj hij
  have h1 := this i j hi hj hij
  refine ⟨fun _ hT => ?_, fun e => by omega⟩
  have := h.after (List.getElem_mem hi) (List.getElem_mem hj) h1
  rw [hT] at this
  exact this
/-- At the place p: how often each place was come to ('came'), the turns left, whether all the way was straight. -/
structure In9 (l : List Ins) (out : List Lp) (p : Nat) (came lf : Nat → Nat) (st : Bool) : Prop where
  lt : p < l.length
  tl : Tl9 lf p out
  le : ∀ q, came q ≤ va9 lf p q (lq9 out q)
  eq : st = true → ∀ q, came q = va9 lf p q (lq9 out q)
theorem In9.tlq {came lf : Nat → Nat} {st : Bool} (h : In9 l out p came lf st) (q : Nat) : Tl9 lf p (lq9 out q) := fun x hx => h.tl x (mem_lq9.1 hx).1
/-- How often a place is told to be come to is enough. -/
theorem In9.enough {came lf : Nat → Nat} {st : Bool} (h : In9 l out p came lf st) (q : Nat) : came q + (if q = p then 1 else 0) ≤ pr9 (lq9 out q) :=
  Nat.le_trans (Nat.add_le_add_right (h.le q) _) (va9_le _ (fun x hx => (mem_lq9.1 hx).2) (h.tlq q))
def put9 (f : Nat → Nat) (p v : Nat) : Nat → Nat := fun q => if q = p then v else f q
theorem In9.next {came lf lf' : Nat → Nat} {st st' : Bool} (hw : Wl9 l out) (h : In9 l out p came lf st) (hst : st' = true → st = true) (hl : p + 1 < l.length) (h1 : ∀ x ∈ out, x.2.1 = p → lf x.1 = 1) (hs : ∀ x ∈ out, wi9 x p = true → wi9 x (p + 1) = true → lf' x.1 = lf x.1)
    (he : ∀ x ∈ out, x.1 = p → lf' x.1 = K9 x) : In9 l out (p + 1) (put9 came p (came p + 1)) lf' st' := by
  have key : ∀ q, va9 lf p q (lq9 out q) + (if q = p then 1 else 0) = va9 lf' (p + 1) q (lq9 out q) := fun q =>
    va9_next _ (fun x hx => (mem_lq9.1 hx).2) (h.tlq q) (fun x hx _ hT => h1 x (mem_lq9.1 hx).1 hT) (fun x hx => hs x (mem_lq9.1 hx).1) (fun x hx => he x (mem_lq9.1 hx).1) (hw.pair q)
  have kc : ∀ q, put9 came p (came p + 1) q = came q + (if q = p then 1 else 0) := fun q => by
    unfold put9
    split
    · rename_i e; rw [e]
    · rfl
  refine ⟨hl, fun x hx hx2 => ?_, fun q => ?_, fun hs' q => ?_⟩
  · by_cases hp : wi9 x p = true
    · rw [hs x hx hp hx2]
      exact h.tl x hx hp
    · have hF : x.1 = p := by rw [wi9_iff] at hp hx2; omega
      rw [he x hx hF]
      have := (hw.mem x hx).2.2.2.2.2.2
      unfold K9
      omega
  · rw [kc, ← key]
    have := h.le q
    omega
  · rw [kc, ← key, h.eq (hst hs') q]
theorem In9.jump {came lf : Nat → Nat} {st : Bool} {a : Nat} (hw : Wl9 l out) (h : In9 l out p came lf st) (ha : p < a) (hl : a < l.length) (hj : ∀ x ∈ out, wi9 x a = true → wi9 x p = true) : In9 l out a (put9 came p (came p + 1)) lf false := by
  have kc : ∀ q, put9 came p (came p + 1) q = came q + (if q = p then 1 else 0) := fun q => by
    unfold put9
    split
    · rename_i e; rw [e]
    · rfl
  refine ⟨hl, fun x hx hx2 => h.tl x hx (hj x hx hx2), fun q => ?_, fun hs' => by cases hs'⟩
  rw [kc]
  exact Nat.le_trans (Nat.add_le_add_right (h.le q) _) (va9_fwd ha _ (fun x hx => (mem_lq9.1 hx).2) (h.tlq q) (fun _ _ _ _ => rfl) (fun x hx hx2 => .inl (hj x (mem_lq9.1 hx).1 hx2)))
theorem In9.back {came lf : Nat → Nat} {st : Bool} {x0 : Lp} (hw : Wl9 l out) (h : In9 l out p came lf st) (h0 : x0 ∈ out) (hp : p = x0.2.1) (h2 : 2 ≤ lf x0.1) : In9 l out (x0.1 + 1) (put9 came p (came p + 1)) (put9 lf x0.1 (lf x0.1 - 1)) st := by
  obtain ⟨m1, m2, -⟩ := hw.mem x0 h0
  have kc : ∀ q, put9 came p (came p + 1) q = came q + (if q = p then 1 else 0) := fun q => by
    unfold put9
    split
    · rename_i e; rw [e]
    · rfl
  have hl : put9 lf x0.1 (lf x0.1 - 1) x0.1 = lf x0.1 - 1 := by simp [put9]
  have ho : ∀ f, f ≠ x0.1 → put9 lf x0.1 (lf x0.1 - 1) f = lf f := fun f hf => by simp [put9, hf]
  have key : ∀ q, va9 lf p q (lq9 out q) + (if q = p then 1 else 0) = va9 (put9 lf x0.1 (lf x0.1 - 1)) (x0.1 + 1) q (lq9 out q) := by
    intro q
    by_cases hq : wi9 x0 q = true
    · obtain ⟨ys, bs, e⟩ := List.append_of_mem (mem_lq9.2 ⟨h0, hq⟩)
      have hsort : (lq9 out q).Pairwise (fun x y => x.1 < y.1) := List.Pairwise.filter _ hw.sorted
      have hin : ∀ x ∈ ys ++ x0 :: bs, x ∈ out ∧ wi9 x q = true := fun x hx => mem_lq9.1 (by rw [e]; exact hx)
      rw [e] at hsort ⊢
      obtain ⟨-, hs2, hs3⟩ := List.pairwise_append.1 hsort
      refine va9_turn hp rfl m1 h2 hl ho ys bs (fun x hx => (hin x hx).2) (fun x hx => h.tl x (hin x hx).1) (fun x hx => ?_) (fun x hx => ?_)
      · have hlt := hs3 x hx x0 List.mem_cons_self
        obtain ⟨i1, i2⟩ := hin x (List.mem_append_left _ hx)
        rw [wi9_iff] at i2 hq
        rcases hw.nest x i1 x0 h0 (by omega) (by omega) (by omega) with ⟨c, d⟩ | ⟨c, d⟩
        · rw [wi9_iff] at c; omega
        · rw [hp, ← hw.turn h0 i1]
          exact ⟨d, d, by omega⟩
      · have hlt := (List.pairwise_cons.1 hs2).1 x hx
        obtain ⟨i1, i2⟩ := hin x (List.mem_append_right _ (List.mem_cons_of_mem _ hx))
        have := hw.after h0 i1 hlt
        rw [hp, ← hw.turn h0 i1]
        exact ⟨this, this⟩
    · refine va9_off hp rfl m1 ho (by simpa using hq) _ (fun x hx => (mem_lq9.1 hx).2) (fun x hx => ?_) (fun x hx e => hw.uniq (mem_lq9.1 hx).1 h0 e)
      rw [hp]
      exact hw.turn h0 (mem_lq9.1 hx).1
  refine ⟨by omega, fun x hx hx2 => ?_, fun q => ?_, fun hs' q => ?_⟩
  · have hx3 : wi9 x p = true := by rw [hp, hw.turn h0 hx]; exact hx2
    obtain ⟨t1, t2⟩ := h.tl x hx hx3
    by_cases e : x.1 = x0.1
    · rw [e, hl]
      rw [e] at t1 t2
      omega
    · rw [ho _ e]
      exact ⟨t1, t2⟩
  · rw [kc, ← key]
    have := h.le q
    omega
  · rw [kc, ← key, h.eq hs' q]
theorem In9.start (hw : Wl9 l out) : In9 l out 0 (fun _ => 0) (fun _ => 0) true := by
  have hn : ∀ x ∈ out, wi9 x 0 = false := fun x hx => by
    cases h : wi9 x 0 with
    | false => rfl
    | true => rw [wi9_iff] at h; omega
  have hv : ∀ q, va9 (fun _ => 0) 0 q (lq9 out q) = 0 := fun q => by
    rw [va9_none _ (fun x hx => hn x (mem_lq9.1 hx).1), if_neg (by omega)]
  exact ⟨hw.pos, fun x hx h => (by rw [hn x hx] at h; cases h), fun q => Nat.zero_le _, fun _ q => (hv q).symm⟩
theorem pr9_one : ∀ (xs : List Lp), pr9 xs = 1 → ∀ x ∈ xs, K9 x = 1
  | [], _ => fun x hx => (by cases hx)
  | y :: ys, h => fun x hx => by
    rw [pr9] at h
    have k1 : K9 y = 1 := Nat.dvd_one.1 ⟨_, h.symm⟩
    have k2 : pr9 ys = 1 := Nat.dvd_one.1 ⟨K9 y, by rw [Nat.mul_comm]; exact h.symm⟩
    rcases List.mem_cons.1 hx with rfl | hx
    · exact k1
    · exact pr9_one ys k2 x hx
/-- At the end, where nothing led elsewhere: just as often. -/
theorem In9.exact {came lf : Nat → Nat} (h : In9 l out p came lf true) (h1 : pr9 (lq9 out p) = 1) (hq : q < p) : came q = pr9 (lq9 out q) := by
  rw [h.eq rfl q]
  exact va9_end hq _ (h.tlq q) (fun x hx hx2 => pr9_one _ h1 x (mem_lq9.2 ⟨(mem_lq9.1 hx).1, hx2⟩))
end
end Go.Proofs.Ytimjnmkfbdijeaa
namespace Go.Proofs.Ytimjnmkfbdijeaa
open Go.RowKit
set_option maxRecDepth 100000
set_option linter.unusedSimpArgs false
set_option linter.unusedVariables false

def isA9 (l : List Ins) (f p : Nat) : Bool := iO9 l p == 29 && iA9 l p == (f : Int)
/-- The OpAgains of an OpLoop, ahead of a place. -/
def agk9 (l : List Ins) (f k : Nat) : List Nat := (List.range k).filter (isA9 l f)
def lpk9 (l : List Ins) (f k : Nat) : List Lp := (agk9 l f k).map fun p => (f, p, iA9 l f)
def lp19 (l : List Ins) (f : Nat) : List Lp := if iO9 l f = 28 then lpk9 l f l.length else []
/-- The loops of the OpLoops ahead of a place. -/
def lpU9 (l : List Ins) (k : Nat) : List Lp := (List.range k).flatMap (lp19 l)
def okF9 (l : List Ins) (f : Nat) : Bool := if iO9 l f = 28 then (agk9 l f l.length).length == 1 && decide (f ≤ (agk9 l f l.length).getLastD 0) else true
def okA9 (l : List Ins) (p : Nat) : Bool := if iO9 l p = 29 then decide (iA9 l p < l.length) && iO9 l (iA9 l p).toNat == 28 else true
def okL9 (l : List Ins) : Bool := (List.range l.length).all (okF9 l) && (List.range l.length).all (okA9 l)
def cm9 (x y : Lp) : Bool := decide (x.1 < y.2.1) && decide (y.1 < x.2.1)
def is9 (x y : Lp) : Bool := wi9 y x.1 && wi9 y x.2.1
def np9 (x y : Lp) : Bool := !(cm9 x y && (!is9 x y && !is9 y x))
def z9 : Lp := (0, 0, 0)
def ns9 (out : List Lp) (n : Nat) : Bool := (List.range out.length).all (fun i => (List.range i).all fun k => np9 (out.getD i z9) (out.getD k z9)) && (List.range n).all fun p => decide ((lq9 out p).length ≤ 4)
def jp9 (l : List Ins) (out : List Lp) (p : Nat) : Bool :=
  if iO9 l p = 26 ∨ iO9 l p = 27 then decide ((p : Int) < iA9 l p) && (decide (iA9 l p < l.length) && out.all fun x => !(wi9 x (iA9 l p).toNat && !wi9 x p)) else true
def la9 (l : List Ins) : Int := iO9 l (l.length - 1)
def flE9 (l : List Ins) : Int :=
  if codM l = true then (if okL9 l = true ∧ ns9 (lpU9 l l.length) l.length = true ∧ (la9 l = 31 ∨ la9 l = 32) ∧ (List.range l.length).all (jp9 l (lpU9 l l.length)) = true then 0 else 90) else 40
def flL9 (l : List Ins) : List Lp := if flE9 l = 0 then lpU9 l l.length else []
def tm9 (out : List Lp) (p : Nat) : Int := (lq9 out p).foldl (fun a x => a * x.2.2) 1
def flT9 (l : List Ins) : List Int := if flE9 l = 0 then (List.range l.length).map (tm9 (lpU9 l l.length)) else []
/-- The ways of a place. -/
def wy9 (l : List Ins) (p : Nat) : List Int :=
  if iO9 l p = 31 ∨ iO9 l p = 32 then [] else if iO9 l p = 26 then [iA9 l p] else if iO9 l p = 27 then (if iA9 l p = p + 1 then [iA9 l p] else [(p : Int) + 1, iA9 l p]) else if iO9 l p = 29 then [iA9 l p + 1, (p : Int) + 1] else [(p : Int) + 1]
def flW9 (l : List Ins) (a : Int) : List Int × Int := if flE9 l = 0 then (if a < 0 ∨ (l.length : Int) ≤ a then ([], 2) else (wy9 l a.toNat, 0)) else ([], flE9 l)
section
variable {l : List Ins}
theorem iO9_mem {p : Nat} (h : p < l.length) : l[p] ∈ l ∧ iO9 l p = l[p].1 ∧ iA9 l p = l[p].2.1 := ⟨List.getElem_mem h, by simp [iO9, h], by simp [iA9, h]⟩
theorem mem_agk9 {f k p : Nat} : p ∈ agk9 l f k ↔ p < k ∧ iO9 l p = 29 ∧ iA9 l p = f := by simp [agk9, isA9]
theorem mem_lpU9 {k : Nat} {x : Lp} : x ∈ lpU9 l k ↔ ∃ f, f < k ∧ iO9 l f = 28 ∧ ∃ p, p ∈ agk9 l f l.length ∧ x = (f, p, iA9 l f) := by
  simp only [lpU9, lp19, lpk9, List.mem_flatMap, List.mem_range]
  constructor
  · rintro ⟨f, hf, hx⟩
    by_cases h : iO9 l f = 28
    · rw [if_pos h, List.mem_map] at hx
      obtain ⟨p, hp, rfl⟩ := hx
      exact ⟨f, hf, h, p, hp, rfl⟩
    · rw [if_neg h] at hx; cases hx
  · rintro ⟨f, hf, h, p, hp, rfl⟩
    exact ⟨f, hf, by rw [if_pos h, List.mem_map]; exact ⟨p, hp, rfl⟩⟩
theorem lpU9_succ (k : Nat) : lpU9 l (k + 1) = lpU9 l k ++ lp19 l k := by simp [lpU9, List.range_succ]
theorem inM_turns {x : Ins} (h : inM x = true) (h0 : x.1 = 28) : 1 ≤ x.2.1 ∧ x.2.1 ≤ 100 := by
  unfold inM opM at h
  rw [h0] at h
  simp only [Bool.and_eq_true, decide_eq_true_eq] at h
  have a : opLo 28 = 1 := by decide
  have b : opHi 28 = 100 := by decide
  rw [a, b] at h
  omega
theorem inM_nn {x : Ins} (h : inM x = true) : 0 ≤ x.2.1 := (opM_bd h).1
/-- One OpAgain: which. -/
theorem okF9_one {f : Nat} (h : okF9 l f = true) (hf : iO9 l f = 28) : ∃ p, agk9 l f l.length = [p] ∧ f < p := by
  rw [okF9, if_pos hf, Bool.and_eq_true, beq_iff_eq, decide_eq_true_eq] at h
  obtain ⟨h1, h2⟩ := h
  match hk : agk9 l f l.length, h1 with
  | [p], _ =>
    rw [hk] at h2
    refine ⟨p, rfl, ?_⟩
    have hp : p ∈ agk9 l f l.length := by rw [hk]; exact List.mem_singleton.2 rfl
    rw [mem_agk9] at hp
    have hne : f ≠ p := fun e => by rw [e, hp.2.1] at hf; cases hf
    simp at h2
    omega
theorem sorted9 (hok : ∀ f, f < l.length → okF9 l f = true) : ∀ k, k ≤ l.length → (lpU9 l k).Pairwise (fun x y => x.1 < y.1)
  | 0, _ => by simp [lpU9]
  | k + 1, hk => by
    rw [lpU9_succ, List.pairwise_append]
    refine ⟨sorted9 hok k (by omega), ?_, fun x hx y hy => ?_⟩
    · unfold lp19
      split
      · rename_i h
        obtain ⟨p, hp, -⟩ := okF9_one (hok k (by omega)) h
        rw [lpk9, hp]
        simp
      · exact List.Pairwise.nil
    · obtain ⟨f, hf, -, p, -, rfl⟩ := mem_lpU9.1 hx
      unfold lp19 at hy
      split at hy
      · rw [lpk9, List.mem_map] at hy
        obtain ⟨p2, -, rfl⟩ := hy
        exact hf
      · cases hy
theorem flE9_zero (h : flE9 l = 0) : codM l = true ∧ okL9 l = true ∧ ns9 (lpU9 l l.length) l.length = true ∧ (la9 l = 31 ∨ la9 l = 32) ∧ (List.range l.length).all (jp9 l (lpU9 l l.length)) = true := by
  unfold flE9 at h
  split at h
  · rename_i h1
    split at h
    · rename_i h2; exact ⟨h1, h2⟩
    · cases h
  · cases h
theorem codM_all (h : codM l = true) : 1 ≤ l.length ∧ l.length ≤ 200 ∧ ∀ x ∈ l, inM x = true := by
  unfold codM at h
  simp only [Bool.and_eq_true, decide_eq_true_eq, List.all_eq_true] at h
  exact ⟨h.1.1, h.1.2, h.2⟩
theorem wl9 (h : flE9 l = 0) : Wl9 l (lpU9 l l.length) := by
  obtain ⟨hc, hok, hns, hla, hj⟩ := flE9_zero h
  obtain ⟨c1, c2, c3⟩ := codM_all hc
  rw [okL9, Bool.and_eq_true, List.all_eq_true, List.all_eq_true] at hok
  have okf : ∀ f, f < l.length → okF9 l f = true := fun f hf => hok.1 f (List.mem_range.2 hf)
  have oka : ∀ p, p < l.length → okA9 l p = true := fun p hp => hok.2 p (List.mem_range.2 hp)
  rw [ns9, Bool.and_eq_true, List.all_eq_true] at hns
  have hso := sorted9 okf l.length (Nat.le_refl _)
  refine ⟨fun x hx => ?_, fun p hp h0 => ?_, fun p hp h0 => ?_, hso, fun x hx y hy hne hc1 hc2 => ?_, fun p hp h0 => ?_, hla, c1⟩
  · obtain ⟨f, hf, h0, p, hp, rfl⟩ := mem_lpU9.1 hx
    obtain ⟨p2, hp2, hlt⟩ := okF9_one (okf f hf) h0
    rw [hp2, List.mem_singleton] at hp
    subst hp
    have hm : p ∈ agk9 l f l.length := by rw [hp2]; exact List.mem_singleton.2 rfl
    rw [mem_agk9] at hm
    obtain ⟨m1, m2, m3⟩ := iO9_mem hf
    have ht := inM_turns (c3 _ m1) (by rw [← m2]; exact h0)
    rw [← m3] at ht
    exact ⟨hlt, hm.1, h0, hm.2.1, hm.2.2, rfl, ht.1, ht.2⟩
  · obtain ⟨q, hq, -⟩ := okF9_one (okf p hp) h0
    exact ⟨(p, q, iA9 l p), mem_lpU9.2 ⟨p, hp, h0, q, by rw [hq]; exact List.mem_singleton.2 rfl, rfl⟩, rfl⟩
  · have := oka p hp
    rw [okA9, if_pos h0, Bool.and_eq_true, decide_eq_true_eq, beq_iff_eq] at this
    obtain ⟨m1, m2, m3⟩ := iO9_mem hp
    have hnn := inM_nn (c3 _ m1)
    rw [← m3] at hnn
    exact ⟨((iA9 l p).toNat, p, iA9 l (iA9 l p).toNat), mem_lpU9.2 ⟨(iA9 l p).toNat, by omega, this.2, p, mem_agk9.2 ⟨hp, h0, by omega⟩, rfl⟩, rfl⟩
  · obtain ⟨i, hi, rfl⟩ := List.getElem_of_mem hx
    obtain ⟨j, hj2, rfl⟩ := List.getElem_of_mem hy
    have key : ∀ i j, (hi : i < (lpU9 l l.length).length) → (hj : j < (lpU9 l l.length).length) → j < i → np9 ((lpU9 l l.length)[i]) ((lpU9 l l.length)[j]) = true := fun i j hi hj hji => by
      have a := hns.1 i (List.mem_range.2 hi)
      rw [List.all_eq_true] at a
      have b := a j (List.mem_range.2 hji)
      rw [List.getD_eq_getElem?_getD, List.getD_eq_getElem?_getD, List.getElem?_eq_getElem hi, List.getElem?_eq_getElem hj] at b
      exact b
    have un : ∀ x y : Lp, np9 x y = true → x.1 < y.2.1 → y.1 < x.2.1 → (wi9 y x.1 = true ∧ wi9 y x.2.1 = true) ∨ (wi9 x y.1 = true ∧ wi9 x y.2.1 = true) := fun x y hn a b => by
      simp only [np9, cm9, is9, a, b, decide_true, Bool.true_and] at hn
      revert hn
      cases wi9 y x.1 <;> cases wi9 y x.2.1 <;> cases wi9 x y.1 <;> cases wi9 x y.2.1 <;> simp
    rcases Nat.lt_trichotomy i j with hij | rfl | hij
    · exact (un _ _ (key j i hj2 hi hij) hc2 hc1).symm
    · exact absurd rfl hne
    · exact un _ _ (key i j hi hj2 hij) hc1 hc2
  · rw [List.all_eq_true] at hj
    have := hj p (List.mem_range.2 hp)
    rw [jp9, if_pos h0, Bool.and_eq_true, Bool.and_eq_true, decide_eq_true_eq, decide_eq_true_eq, List.all_eq_true] at this
    obtain ⟨a, b, c⟩ := this
    refine ⟨a, b, fun x hx hw => ?_⟩
    have := c x hx
    rw [hw] at this
    simpa using this
theorem foldl_mul (xs : List Lp) (h : ∀ x ∈ xs, 1 ≤ x.2.2) : ∀ a : Int, xs.foldl (fun a x => a * x.2.2) a = a * (pr9 xs : Int) := by
  induction xs with
  | nil => intro a; simp [pr9]
  | cons x xs ih =>
    intro a
    have hx := h x List.mem_cons_self
    rw [List.foldl_cons, ih (fun y hy => h y (List.mem_cons_of_mem _ hy)), pr9, K9]
    rw [Int.natCast_mul, Int.toNat_of_nonneg (by omega), Int.mul_assoc]
theorem tm9_pr {out : List Lp} (h : Wl9 l out) (p : Nat) : tm9 out p = (pr9 (lq9 out p) : Int) := by
  rw [tm9, foldl_mul _ (fun x hx => (h.mem x (mem_lq9.1 hx).1).2.2.2.2.2.2.1)]
  simp
end
end Go.Proofs.Ytimjnmkfbdijeaa
