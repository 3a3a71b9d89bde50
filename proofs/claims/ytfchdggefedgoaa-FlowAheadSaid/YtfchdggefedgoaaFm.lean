/-
  Flow, on lists alone: code that flows well, one step of it, whichever way it goes.
-/
import Derived.Test.YtfchdggefedgoaaFl
namespace Go.Proofs.Ytfchdggefedgoaa
open Go.RowKit
set_option maxRecDepth 100000
set_option linter.unusedSimpArgs false
set_option linter.unusedVariables false

def iO9 (l : List Ins) (p : Nat) : Int := (l[p]?.getD (0, 0, 0)).1
def iA9 (l : List Ins) (p : Nat) : Int := (l[p]?.getD (0, 0, 0)).2.1
/-- Code that flows well, with its loops. -/
structure Wl9 (l : List Ins) (out : List Lp) : Prop where
  mem : ∀ x ∈ out, x.1 < x.2.1 ∧ x.2.1 < l.length ∧ iO9 l x.1 = 28 ∧ iO9 l x.2.1 = 29 ∧ iA9 l x.2.1 = x.1 ∧ x.2.2 = iA9 l x.1 ∧ 1 ≤ x.2.2 ∧ x.2.2 ≤ 100
  ofL : ∀ p, p < l.length → iO9 l p = 28 → ∃ x ∈ out, x.1 = p
  ofA : ∀ p, p < l.length → iO9 l p = 29 → ∃ x ∈ out, x.2.1 = p
  sorted : out.Pairwise (fun x y => x.1 < y.1)
  nest : ∀ x ∈ out, ∀ y ∈ out, x.1 ≠ y.1 → x.1 < y.2.1 → y.1 < x.2.1 → (wi9 y x.1 = true ∧ wi9 y x.2.1 = true) ∨ (wi9 x y.1 = true ∧ wi9 x y.2.1 = true)
  jump : ∀ p, p < l.length → iO9 l p = 26 ∨ iO9 l p = 27 → (p : Int) < iA9 l p ∧ iA9 l p < l.length ∧ ∀ x ∈ out, wi9 x (iA9 l p).toNat = true → wi9 x p = true
  last : iO9 l (l.length - 1) = 31 ∨ iO9 l (l.length - 1) = 32
  pos : 1 ≤ l.length
/-- The loops around a place. -/
def lq9 (out : List Lp) (q : Nat) : List Lp := out.filter fun x => wi9 x q
theorem mem_lq9 {out : List Lp} {q : Nat} {x : Lp} : x ∈ lq9 out q ↔ x ∈ out ∧ wi9 x q = true := by simp [lq9]
section
variable {l : List Ins} {out : List Lp} {p q : Nat}
theorem Wl9.uniq (h : Wl9 l out) {x y : Lp} (hx : x ∈ out) (hy : y ∈ out) (e : x.1 = y.1) : x = y := by
  obtain ⟨-, -, -, -, h5, -⟩ := h.mem x hx
  by_cases hxy : x = y
  · exact hxy
  · have := h.sorted
    rw [List.pairwise_iff_getElem] at this
    obtain ⟨i, hi, rfl⟩ := List.getElem_of_mem hx
    obtain ⟨j, hj, rfl⟩ := List.getElem_of_mem hy
    rcases Nat.lt_trichotomy i j with hij | rfl | hij
    · have := this i j hi hj hij; omega
    · rfl
    · have := this j i hj hi hij; omega
/-- Where two loops end at one place they are one. -/
theorem Wl9.uniqT (h : Wl9 l out) {x y : Lp} (hx : x ∈ out) (hy : y ∈ out) (e : x.2.1 = y.2.1) : x = y := by
  obtain ⟨-, -, -, -, h5, -⟩ := h.mem x hx
  obtain ⟨-, -, -, -, k5, -⟩ := h.mem y hy
  rw [e, k5] at h5
  exact h.uniq hx hy (by omega)
/-- No loop that begins later is around the place where one ends. -/
theorem Wl9.after (h : Wl9 l out) {x z : Lp} (hx : x ∈ out) (hz : z ∈ out) (hxz : x.1 < z.1) : wi9 z x.2.1 = false := by
  cases hw : wi9 z x.2.1 with
  | false => rfl
  | true =>
    rw [wi9_iff] at hw
    obtain ⟨m1, -⟩ := h.mem x hx
    obtain ⟨m2, -⟩ := h.mem z hz
    rcases h.nest x hx z hz (by omega) (by omega) (by omega) with ⟨a, _⟩ | ⟨_, b⟩
    · rw [wi9_iff] at a; omega
    · rw [wi9_iff] at b
      have := h.uniqT hx hz (by omega)
      subst this
      omega
/-- What is around the end of a loop is around its first place, and the other way about. -/
theorem Wl9.turn (h : Wl9 l out) {x0 x : Lp} (h0 : x0 ∈ out) (hx : x ∈ out) : wi9 x x0.2.1 = wi9 x (x0.1 + 1) := by
  obtain ⟨m1, -⟩ := h.mem x0 h0
  obtain ⟨m2, -⟩ := h.mem x hx
  by_cases e : x.1 = x0.1
  · have := h.uniq hx h0 e
    subst this
    rw [Bool.eq_iff_iff, wi9_iff, wi9_iff]
    omega
  · rw [Bool.eq_iff_iff, wi9_iff, wi9_iff]
    constructor
    · rintro ⟨a, b⟩
      rcases h.nest x hx x0 h0 e (by omega) (by omega) with ⟨c, d⟩ | ⟨c, d⟩
      · rw [wi9_iff] at d
        have := h.uniqT hx h0 (by omega)
        subst this
        exact absurd rfl e
      · rw [wi9_iff] at c; omega
    · rintro ⟨a, b⟩
      rcases h.nest x hx x0 h0 e (by omega) (by omega) with ⟨c, d⟩ | ⟨c, d⟩
      · rw [wi9_iff] at c; omega
      · rw [wi9_iff] at d; omega
theorem Wl9.pair (h : Wl9 l out) (q : Nat) : (lq9 out q).Pairwise (fun x z => (wi9 x p = true → x.2.1 = p → wi9 z p = false) ∧ (x.1 = p → p < z.1)) := by
  unfold lq9
  refine List.Pairwise.filter _ ?_
  have := h.sorted
  rw [List.pairwise_iff_getElem] at this ⊢
  intro i j hi hj hij
  have h1 := this i j hi hj hij
  refine ⟨fun _ hT => ?_, fun e => by omega⟩
  have := h.after (List.getElem_mem hi) (List.getElem_mem hj) h1
  rw [hT] at this
  exact this
/-- At the place p: how often each place was come to ('came'), the turns left, whether all the way was straight. -/
structure In9 (l : List Ins) (out : List Lp) (p : Nat) (came lf : Nat → Nat) (st : Bool) : Prop where
  lt : p < l.length
  tl : Tl9 lf p out
  le : ∀ q, came q ≤ va9 lf p q (lq9 out q)
  eq : st = true → ∀ q, came q = va9 lf p q (lq9 out q)
theorem In9.tlq {came lf : Nat → Nat} {st : Bool} (h : In9 l out p came lf st) (q : Nat) : Tl9 lf p (lq9 out q) := fun x hx => h.tl x (mem_lq9.1 hx).1
/-- How often a place is told to be come to is enough. -/
theorem In9.enough {came lf : Nat → Nat} {st : Bool} (h : In9 l out p came lf st) (q : Nat) : came q + (if q = p then 1 else 0) ≤ pr9 (lq9 out q) :=
  Nat.le_trans (Nat.add_le_add_right (h.le q) _) (va9_le _ (fun x hx => (mem_lq9.1 hx).2) (h.tlq q))
def put9 (f : Nat → Nat) (p v : Nat) : Nat → Nat := fun q => if q = p then v else f q
theorem In9.next {came lf lf' : Nat → Nat} {st st' : Bool} (hw : Wl9 l out) (h : In9 l out p came lf st) (hst : st' = true → st = true) (hl : p + 1 < l.length) (h1 : ∀ x ∈ out, x.2.1 = p → lf x.1 = 1) (hs : ∀ x ∈ out, wi9 x p = true → wi9 x (p + 1) = true → lf' x.1 = lf x.1)
    (he : ∀ x ∈ out, x.1 = p → lf' x.1 = K9 x) : In9 l out (p + 1) (put9 came p (came p + 1)) lf' st' := by
  have key : ∀ q, va9 lf p q (lq9 out q) + (if q = p then 1 else 0) = va9 lf' (p + 1) q (lq9 out q) := fun q =>
    va9_next _ (fun x hx => (mem_lq9.1 hx).2) (h.tlq q) (fun x hx _ hT => h1 x (mem_lq9.1 hx).1 hT) (fun x hx => hs x (mem_lq9.1 hx).1) (fun x hx => he x (mem_lq9.1 hx).1) (hw.pair q)
  have kc : ∀ q, put9 came p (came p + 1) q = came q + (if q = p then 1 else 0) := fun q => by
    unfold put9
    split
    · rename_i e; rw [e]
    · rfl
  refine ⟨hl, fun x hx hx2 => ?_, fun q => ?_, fun hs' q => ?_⟩
  · by_cases hp : wi9 x p = true
    · rw [hs x hx hp hx2]
      exact h.tl x hx hp
    · have hF : x.1 = p := by rw [wi9_iff] at hp hx2; omega
      rw [he x hx hF]
      have := (hw.mem x hx).2.2.2.2.2.2
      unfold K9
      omega
  · rw [kc, ← key]
    have := h.le q
    omega
  · rw [kc, ← key, h.eq (hst hs') q]
theorem In9.jump {came lf : Nat → Nat} {st : Bool} {a : Nat} (hw : Wl9 l out) (h : In9 l out p came lf st) (ha : p < a) (hl : a < l.length) (hj : ∀ x ∈ out, wi9 x a = true → wi9 x p = true) : In9 l out a (put9 came p (came p + 1)) lf false := by
  have kc : ∀ q, put9 came p (came p + 1) q = came q + (if q = p then 1 else 0) := fun q => by
    unfold put9
    split
    · rename_i e; rw [e]
    · rfl
  refine ⟨hl, fun x hx hx2 => h.tl x hx (hj x hx hx2), fun q => ?_, fun hs' => by cases hs'⟩
  rw [kc]
  exact Nat.le_trans (Nat.add_le_add_right (h.le q) _) (va9_fwd ha _ (fun x hx => (mem_lq9.1 hx).2) (h.tlq q) (fun _ _ _ _ => rfl) (fun x hx hx2 => .inl (hj x (mem_lq9.1 hx).1 hx2)))
theorem In9.back {came lf : Nat → Nat} {st : Bool} {x0 : Lp} (hw : Wl9 l out) (h : In9 l out p came lf st) (h0 : x0 ∈ out) (hp : p = x0.2.1) (h2 : 2 ≤ lf x0.1) : In9 l out (x0.1 + 1) (put9 came p (came p + 1)) (put9 lf x0.1 (lf x0.1 - 1)) st := by
  obtain ⟨m1, m2, -⟩ := hw.mem x0 h0
  have kc : ∀ q, put9 came p (came p + 1) q = came q + (if q = p then 1 else 0) := fun q => by
    unfold put9
    split
    · rename_i e; rw [e]
    · rfl
  have hl : put9 lf x0.1 (lf x0.1 - 1) x0.1 = lf x0.1 - 1 := by simp [put9]
  have ho : ∀ f, f ≠ x0.1 → put9 lf x0.1 (lf x0.1 - 1) f = lf f := fun f hf => by simp [put9, hf]
  have key : ∀ q, va9 lf p q (lq9 out q) + (if q = p then 1 else 0) = va9 (put9 lf x0.1 (lf x0.1 - 1)) (x0.1 + 1) q (lq9 out q) := by
    intro q
    by_cases hq : wi9 x0 q = true
    · obtain ⟨ys, bs, e⟩ := List.append_of_mem (mem_lq9.2 ⟨h0, hq⟩)
      have hsort : (lq9 out q).Pairwise (fun x y => x.1 < y.1) := List.Pairwise.filter _ hw.sorted
      have hin : ∀ x ∈ ys ++ x0 :: bs, x ∈ out ∧ wi9 x q = true := fun x hx => mem_lq9.1 (by rw [e]; exact hx)
      rw [e] at hsort ⊢
      obtain ⟨-, hs2, hs3⟩ := List.pairwise_append.1 hsort
      refine va9_turn hp rfl m1 h2 hl ho ys bs (fun x hx => (hin x hx).2) (fun x hx => h.tl x (hin x hx).1) (fun x hx => ?_) (fun x hx => ?_)
      · have hlt := hs3 x hx x0 List.mem_cons_self
        obtain ⟨i1, i2⟩ := hin x (List.mem_append_left _ hx)
        rw [wi9_iff] at i2 hq
        rcases hw.nest x i1 x0 h0 (by omega) (by omega) (by omega) with ⟨c, d⟩ | ⟨c, d⟩
        · rw [wi9_iff] at c; omega
        · rw [hp, ← hw.turn h0 i1]
          exact ⟨d, d, by omega⟩
      · have hlt := (List.pairwise_cons.1 hs2).1 x hx
        obtain ⟨i1, i2⟩ := hin x (List.mem_append_right _ (List.mem_cons_of_mem _ hx))
        have := hw.after h0 i1 hlt
        rw [hp, ← hw.turn h0 i1]
        exact ⟨this, this⟩
    · refine va9_off hp rfl m1 ho (by simpa using hq) _ (fun x hx => (mem_lq9.1 hx).2) (fun x hx => ?_) (fun x hx e => hw.uniq (mem_lq9.1 hx).1 h0 e)
      rw [hp]
      exact hw.turn h0 (mem_lq9.1 hx).1
  refine ⟨by omega, fun x hx hx2 => ?_, fun q => ?_, fun hs' q => ?_⟩
  · have hx3 : wi9 x p = true := by rw [hp, hw.turn h0 hx]; exact hx2
    obtain ⟨t1, t2⟩ := h.tl x hx hx3
    by_cases e : x.1 = x0.1
    · rw [e, hl]
      rw [e] at t1 t2
      omega
    · rw [ho _ e]
      exact ⟨t1, t2⟩
  · rw [kc, ← key]
    have := h.le q
    omega
  · rw [kc, ← key, h.eq hs' q]
theorem In9.start (hw : Wl9 l out) : In9 l out 0 (fun _ => 0) (fun _ => 0) true := by
  have hn : ∀ x ∈ out, wi9 x 0 = false := fun x hx => by
    cases h : wi9 x 0 with
    | false => rfl
    | true => rw [wi9_iff] at h; omega
  have hv : ∀ q, va9 (fun _ => 0) 0 q (lq9 out q) = 0 := fun q => by
    rw [va9_none _ (fun x hx => hn x (mem_lq9.1 hx).1), if_neg (by omega)]
  exact ⟨hw.pos, fun x hx h => (by rw [hn x hx] at h; cases h), fun q => Nat.zero_le _, fun _ q => (hv q).symm⟩
theorem pr9_one : ∀ (xs : List Lp), pr9 xs = 1 → ∀ x ∈ xs, K9 x = 1
  | [], _ => fun x hx => (by cases hx)
  | y :: ys, h => fun x hx => by
    rw [pr9] at h
    have k1 : K9 y = 1 := Nat.dvd_one.1 ⟨_, h.symm⟩
    have k2 : pr9 ys = 1 := Nat.dvd_one.1 ⟨K9 y, by rw [Nat.mul_comm]; exact h.symm⟩
    rcases List.mem_cons.1 hx with rfl | hx
    · exact k1
    · exact pr9_one ys k2 x hx
/-- At the end, where nothing led elsewhere: just as often. -/
theorem In9.exact {came lf : Nat → Nat} (h : In9 l out p came lf true) (h1 : pr9 (lq9 out p) = 1) (hq : q < p) : came q = pr9 (lq9 out q) := by
  rw [h.eq rfl q]
  exact va9_end hq _ (h.tlq q) (fun x hx hx2 => pr9_one _ h1 x (mem_lq9.2 ⟨(mem_lq9.1 hx).1, hx2⟩))
end
end Go.Proofs.Ytfchdggefedgoaa
