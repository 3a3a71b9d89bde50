/-
  Flow by definition: loops, whether code flows well, times, ways; what flows well has loops that are well within one another.
-/
import Derived.Test.YtfchdggefedgoaaFm
namespace Go.Proofs.Ytfchdggefedgoaa
open Go.RowKit
set_option maxRecDepth 100000
set_option linter.unusedSimpArgs false
set_option linter.unusedVariables false

def isA9 (l : List Ins) (f p : Nat) : Bool := iO9 l p == 29 && iA9 l p == (f : Int)
/-- The OpAgains of an OpLoop, ahead of a place. -/
def agk9 (l : List Ins) (f k : Nat) : List Nat := (List.range k).filter (isA9 l f)
def lpk9 (l : List Ins) (f k : Nat) : List Lp := (agk9 l f k).map fun p => (f, p, iA9 l f)
def lp19 (l : List Ins) (f : Nat) : List Lp := if iO9 l f = 28 then lpk9 l f l.length else []
/-- The loops of the OpLoops ahead of a place. -/
def lpU9 (l : List Ins) (k : Nat) : List Lp := (List.range k).flatMap (lp19 l)
def okF9 (l : List Ins) (f : Nat) : Bool := if iO9 l f = 28 then (agk9 l f l.length).length == 1 && decide (f ≤ (agk9 l f l.length).getLastD 0) else true
def okA9 (l : List Ins) (p : Nat) : Bool := if iO9 l p = 29 then decide (iA9 l p < l.length) && iO9 l (iA9 l p).toNat == 28 else true
def okL9 (l : List Ins) : Bool := (List.range l.length).all (okF9 l) && (List.range l.length).all (okA9 l)
def cm9 (x y : Lp) : Bool := decide (x.1 < y.2.1) && decide (y.1 < x.2.1)
def is9 (x y : Lp) : Bool := wi9 y x.1 && wi9 y x.2.1
def np9 (x y : Lp) : Bool := !(cm9 x y && (!is9 x y && !is9 y x))
def z9 : Lp := (0, 0, 0)
def ns9 (out : List Lp) (n : Nat) : Bool := (List.range out.length).all (fun i => (List.range i).all fun k => np9 (out.getD i z9) (out.getD k z9)) && (List.range n).all fun p => decide ((lq9 out p).length ≤ 4)
def jp9 (l : List Ins) (out : List Lp) (p : Nat) : Bool :=
  if iO9 l p = 26 ∨ iO9 l p = 27 then decide ((p : Int) < iA9 l p) && (decide (iA9 l p < l.length) && out.all fun x => !(wi9 x (iA9 l p).toNat && !wi9 x p)) else true
def la9 (l : List Ins) : Int := iO9 l (l.length - 1)
def flE9 (l : List Ins) : Int :=
  if codM l = true then (if okL9 l = true ∧ ns9 (lpU9 l l.length) l.length = true ∧ (la9 l = 31 ∨ la9 l = 32) ∧ (List.range l.length).all (jp9 l (lpU9 l l.length)) = true then 0 else 90) else 40
def flL9 (l : List Ins) : List Lp := if flE9 l = 0 then lpU9 l l.length else []
def tm9 (out : List Lp) (p : Nat) : Int := (lq9 out p).foldl (fun a x => a * x.2.2) 1
def flT9 (l : List Ins) : List Int := if flE9 l = 0 then (List.range l.length).map (tm9 (lpU9 l l.length)) else []
/-- The ways of a place. -/
def wy9 (l : List Ins) (p : Nat) : List Int :=
  if iO9 l p = 31 ∨ iO9 l p = 32 then [] else if iO9 l p = 26 then [iA9 l p] else if iO9 l p = 27 then (if iA9 l p = p + 1 then [iA9 l p] else [(p : Int) + 1, iA9 l p]) else if iO9 l p = 29 then [iA9 l p + 1, (p : Int) + 1] else [(p : Int) + 1]
def flW9 (l : List Ins) (a : Int) : List Int × Int := if flE9 l = 0 then (if a < 0 ∨ (l.length : Int) ≤ a then ([], 2) else (wy9 l a.toNat, 0)) else ([], flE9 l)
section
variable {l : List Ins}
theorem iO9_mem {p : Nat} (h : p < l.length) : l[p] ∈ l ∧ iO9 l p = l[p].1 ∧ iA9 l p = l[p].2.1 := ⟨List.getElem_mem h, by simp [iO9, h], by simp [iA9, h]⟩
theorem mem_agk9 {f k p : Nat} : p ∈ agk9 l f k ↔ p < k ∧ iO9 l p = 29 ∧ iA9 l p = f := by simp [agk9, isA9]
theorem mem_lpU9 {k : Nat} {x : Lp} : x ∈ lpU9 l k ↔ ∃ f, f < k ∧ iO9 l f = 28 ∧ ∃ p, p ∈ agk9 l f l.length ∧ x = (f, p, iA9 l f) := by
  simp only [lpU9, lp19, lpk9, List.mem_flatMap, List.mem_range]
  constructor
  · rintro ⟨f, hf, hx⟩
    by_cases h : iO9 l f = 28
    · rw [if_pos h, List.mem_map] at hx
      obtain ⟨p, hp, rfl⟩ := hx
      exact ⟨f, hf, h, p, hp, rfl⟩
    · rw [if_neg h] at hx; cases hx
  · rintro ⟨f, hf, h, p, hp, rfl⟩
    exact ⟨f, hf, by rw [if_pos h, List.mem_map]; exact ⟨p, hp, rfl⟩⟩
theorem lpU9_succ (k : Nat) : lpU9 l (k + 1) = lpU9 l k ++ lp19 l k := by simp [lpU9, List.range_succ]
theorem inM_turns {x : Ins} (h : inM x = true) (h0 : x.1 = 28) : 1 ≤ x.2.1 ∧ x.2.1 ≤ 100 := by
  unfold inM opM at h
  rw [h0] at h
  simp only [Bool.and_eq_true, decide_eq_true_eq] at h
  have a : opLo 28 = 1 := by decide
  have b : opHi 28 = 100 := by decide
  rw [a, b] at h
  omega
theorem inM_nn {x : Ins} (h : inM x = true) : 0 ≤ x.2.1 := (opM_bd h).1
/-- One OpAgain: which. -/
theorem okF9_one {f : Nat} (h : okF9 l f = true) (hf : iO9 l f = 28) : ∃ p, agk9 l f l.length = [p] ∧ f < p := by
  rw [okF9, if_pos hf, Bool.and_eq_true, beq_iff_eq, decide_eq_true_eq] at h
  obtain ⟨h1, h2⟩ := h
  match hk : agk9 l f l.length, h1 with
  | [p], _ =>
    rw [hk] at h2
    refine ⟨p, rfl, ?_⟩
    have hp : p ∈ agk9 l f l.length := by rw [hk]; exact List.mem_singleton.2 rfl
    rw [mem_agk9] at hp
    have hne : f ≠ p := fun e => by rw [e, hp.2.1] at hf; cases hf
    simp at h2
    omega
theorem sorted9 (hok : ∀ f, f < l.length → okF9 l f = true) : ∀ k, k ≤ l.length → (lpU9 l k).Pairwise (fun x y => x.1 < y.1)
  | 0, _ => by simp [lpU9]
  | k + 1, hk => by
    rw [lpU9_succ, List.pairwise_append]
    refine ⟨sorted9 hok k (by omega), ?_, fun x hx y hy => ?_⟩
    · unfold lp19
      split
      · rename_i h
        obtain ⟨p, hp, -⟩ := okF9_one (hok k (by omega)) h
        rw [lpk9, hp]
        simp
      · exact List.Pairwise.nil
    · obtain ⟨f, hf, -, p, -, rfl⟩ := mem_lpU9.1 hx
      unfold lp19 at hy
      split at hy
      · rw [lpk9, List.mem_map] at hy
        obtain ⟨p2, -, rfl⟩ := hy
        exact hf
      · cases hy
theorem flE9_zero (h : flE9 l = 0) : codM l = true ∧ okL9 l = true ∧ ns9 (lpU9 l l.length) l.length = true ∧ (la9 l = 31 ∨ la9 l = 32) ∧ (List.range l.length).all (jp9 l (lpU9 l l.length)) = true := by
  unfold flE9 at h
  split at h
  · rename_i h1
    split at h
    · rename_i h2; exact ⟨h1, h2⟩
    · cases h
  · cases h
theorem codM_all (h : codM l = true) : 1 ≤ l.length ∧ l.length ≤ 200 ∧ ∀ x ∈ l, inM x = true := by
  unfold codM at h
  simp only [Bool.and_eq_true, decide_eq_true_eq, List.all_eq_true] at h
  exact ⟨h.1.1, h.1.2, h.2⟩
theorem wl9 (h : flE9 l = 0) : Wl9 l (lpU9 l l.length) := by
  obtain ⟨hc, hok, hns, hla, hj⟩ := flE9_zero h
  obtain ⟨c1, c2, c3⟩ := codM_all hc
  rw [okL9, Bool.and_eq_true, List.all_eq_true, List.all_eq_true] at hok
  have okf : ∀ f, f < l.length → okF9 l f = true := fun f hf => hok.1 f (List.mem_range.2 hf)
  have oka : ∀ p, p < l.length → okA9 l p = true := fun p hp => hok.2 p (List.mem_range.2 hp)
  rw [ns9, Bool.and_eq_true, List.all_eq_true] at hns
  have hso := sorted9 okf l.length (Nat.le_refl _)
  refine ⟨fun x hx => ?_, fun p hp h0 => ?_, fun p hp h0 => ?_, hso, fun x hx y hy hne hc1 hc2 => ?_, fun p hp h0 => ?_, hla, c1⟩
  · obtain ⟨f, hf, h0, p, hp, rfl⟩ := mem_lpU9.1 hx
    obtain ⟨p2, hp2, hlt⟩ := okF9_one (okf f hf) h0
    rw [hp2, List.mem_singleton] at hp
    subst hp
    have hm : p ∈ agk9 l f l.length := by rw [hp2]; exact List.mem_singleton.2 rfl
    rw [mem_agk9] at hm
    obtain ⟨m1, m2, m3⟩ := iO9_mem hf
    have ht := inM_turns (c3 _ m1) (by rw [← m2]; exact h0)
    rw [← m3] at ht
    exact ⟨hlt, hm.1, h0, hm.2.1, hm.2.2, rfl, ht.1, ht.2⟩
  · obtain ⟨q, hq, -⟩ := okF9_one (okf p hp) h0
    exact ⟨(p, q, iA9 l p), mem_lpU9.2 ⟨p, hp, h0, q, by rw [hq]; exact List.mem_singleton.2 rfl, rfl⟩, rfl⟩
  · have := oka p hp
    rw [okA9, if_pos h0, Bool.and_eq_true, decide_eq_true_eq, beq_iff_eq] at this
    obtain ⟨m1, m2, m3⟩ := iO9_mem hp
    have hnn := inM_nn (c3 _ m1)
    rw [← m3] at hnn
    exact ⟨((iA9 l p).toNat, p, iA9 l (iA9 l p).toNat), mem_lpU9.2 ⟨(iA9 l p).toNat, by omega, this.2, p, mem_agk9.2 ⟨hp, h0, by omega⟩, rfl⟩, rfl⟩
  · obtain ⟨i, hi, rfl⟩ := List.getElem_of_mem hx
    obtain ⟨j, hj2, rfl⟩ := List.getElem_of_mem hy
    have key : ∀ i j, (hi : i < (lpU9 l l.length).length) → (hj : j < (lpU9 l l.length).length) → j < i → np9 ((lpU9 l l.length)[i]) ((lpU9 l l.length)[j]) = true := fun i j hi hj hji => by
      have a := hns.1 i (List.mem_range.2 hi)
      rw [List.all_eq_true] at a
      have b := a j (List.mem_range.2 hji)
      rw [List.getD_eq_getElem?_getD, List.getD_eq_getElem?_getD, List.getElem?_eq_getElem hi, List.getElem?_eq_getElem hj] at b
      exact b
    have un : ∀ x y : Lp, np9 x y = true → x.1 < y.2.1 → y.1 < x.2.1 → (wi9 y x.1 = true ∧ wi9 y x.2.1 = true) ∨ (wi9 x y.1 = true ∧ wi9 x y.2.1 = true) := fun x y hn a b => by
      simp only [np9, cm9, is9, a, b, decide_true, Bool.true_and] at hn
      revert hn
      cases wi9 y x.1 <;> cases wi9 y x.2.1 <;> cases wi9 x y.1 <;> cases wi9 x y.2.1 <;> simp
    rcases Nat.lt_trichotomy i j with hij | rfl | hij
    · exact (un _ _ (key j i hj2 hi hij) hc2 hc1).symm
    · exact absurd rfl hne
    · exact un _ _ (key i j hi hj2 hij) hc1 hc2
  · rw [List.all_eq_true] at hj
    have := hj p (List.mem_range.2 hp)
    rw [jp9, if_pos h0, Bool.and_eq_true, Bool.and_eq_true, decide_eq_true_eq, decide_eq_true_eq, List.all_eq_true] at this
    obtain ⟨a, b, c⟩ := this
    refine ⟨a, b, fun x hx hw => ?_⟩
    have := c x hx
    rw [hw] at this
    simpa using this
theorem foldl_mul (xs : List Lp) (h : ∀ x ∈ xs, 1 ≤ x.2.2) : ∀ a : Int, xs.foldl (fun a x => a * x.2.2) a = a * (pr9 xs : Int) := by
  induction xs with
  | nil => intro a; simp [pr9]
  | cons x xs ih =>
    intro a
    have hx := h x List.mem_cons_self
    rw [List.foldl_cons, ih (fun y hy => h y (List.mem_cons_of_mem _ hy)), pr9, K9]
    rw [Int.natCast_mul, Int.toNat_of_nonneg (by omega), Int.mul_assoc]
theorem tm9_pr {out : List Lp} (h : Wl9 l out) (p : Nat) : tm9 out p = (pr9 (lq9 out p) : Int) := by
  rw [tm9, foldl_mul _ (fun x hx => (h.mem x (mem_lq9.1 hx).1).2.2.2.2.2.2.1)]
  simp
end
end Go.Proofs.Ytfchdggefedgoaa
