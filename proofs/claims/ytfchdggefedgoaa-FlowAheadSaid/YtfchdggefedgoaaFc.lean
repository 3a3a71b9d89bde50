/-
  Flow, on lists alone: loops that are told by a stack of those that are open: what it comes to is what the definition says.
-/
import Derived.Test.YtfchdggefedgoaaFn
namespace Go.Proofs.Ytfchdggefedgoaa
open Go.RowKit
set_option maxRecDepth 100000
set_option linter.unusedSimpArgs false
set_option linter.unusedVariables false

/-- The OpLoops ahead of a place. -/
def sF9 (l : List Ins) (p : Nat) : List Nat := (List.range p).filter fun f => iO9 l f == 28
/-- Where a loop ends, as far as is known at a place; 0: it is open. -/
def sT9 (l : List Ins) (f p : Nat) : Nat := (agk9 l f p).headD 0
def sL9 (l : List Ins) (p : Nat) : List Lp := (sF9 l p).map fun f => (f, sT9 l f p, iA9 l f)
/-- Those that are open. -/
def sS9 (l : List Ins) (p : Nat) : List Nat := (sF9 l p).filter fun f => (agk9 l f p).isEmpty
def sok9 (l : List Ins) (q : Nat) : Prop := (iO9 l q = 28 → (sS9 l q).length < 4) ∧ (iO9 l q = 29 → ∃ f, (sS9 l q).getLast? = some f ∧ iA9 l q = (f : Int))
def sG9 (l : List Ins) (p : Nat) : Prop := ∀ q, q < p → sok9 l q
/-- The place of a loop among all. -/
def ix9 (l : List Ins) (f : Nat) : Nat := (sF9 l f).length
section
variable {l : List Ins} {f p q : Nat}
theorem agk9_succ (l : List Ins) (f p : Nat) : agk9 l f (p + 1) = agk9 l f p ++ (if isA9 l f p = true then [p] else []) := by
  rw [agk9, List.range_succ, List.filter_append]
  simp only [List.filter_cons, List.filter_nil, agk9]
theorem agk9_same (h : iO9 l p ≠ 29) : agk9 l f (p + 1) = agk9 l f p := by
  rw [agk9_succ, if_neg (by simp [isA9, h]), List.append_nil]
theorem sF9_succ (l : List Ins) (p : Nat) : sF9 l (p + 1) = sF9 l p ++ (if iO9 l p = 28 then [p] else []) := by
  rw [sF9, List.range_succ, List.filter_append]
  simp only [List.filter_cons, List.filter_nil, sF9, beq_iff_eq]
theorem mem_sF9 : f ∈ sF9 l p ↔ f < p ∧ iO9 l f = 28 := by simp [sF9]
theorem sF9_pw (l : List Ins) (p : Nat) : (sF9 l p).Pairwise (· < ·) := List.Pairwise.filter _ List.pairwise_lt_range
theorem mem_sS9 : f ∈ sS9 l p ↔ f < p ∧ iO9 l f = 28 ∧ agk9 l f p = [] := by
  rw [sS9, List.mem_filter, mem_sF9, List.isEmpty_iff, and_assoc]
theorem sS9_pw (l : List Ins) (p : Nat) : (sS9 l p).Pairwise (· < ·) := List.Pairwise.filter _ (sF9_pw l p)
theorem sS9_last {f g : Nat} (h : (sS9 l p).getLast? = some f) (hg : g ∈ sS9 l p) : g ≤ f := by
  obtain ⟨ys, hy⟩ := List.getLast?_eq_some_iff.1 h
  have hp := sS9_pw l p
  rw [hy, List.pairwise_append] at hp
  rw [hy, List.mem_append] at hg
  rcases hg with hg | hg
  · exact Nat.le_of_lt (hp.2.2 g hg f (List.mem_singleton.2 rfl))
  · rw [List.mem_singleton.1 hg]; exact Nat.le_refl _
theorem sF9_split : ∀ p, f < p → iO9 l f = 28 → ∃ R, sF9 l p = sF9 l f ++ f :: R ∧ ∀ r ∈ R, f < r
  | 0, h, _ => by omega
  | p + 1, h, h0 => by
    by_cases e : f = p
    · subst e
      exact ⟨[], by rw [sF9_succ, if_pos h0], fun r hr => (by cases hr)⟩
    · obtain ⟨R, h1, h2⟩ := sF9_split p (by omega) h0
      refine ⟨R ++ (if iO9 l p = 28 then [p] else []), by rw [sF9_succ, h1]; simp, fun r hr => ?_⟩
      rw [List.mem_append] at hr
      rcases hr with hr | hr
      · exact h2 r hr
      · split at hr
        · rw [List.mem_singleton.1 hr]; omega
        · cases hr
/-- A step: neither an OpLoop nor an OpAgain. -/
theorem s9_other (h1 : iO9 l p ≠ 28) (h2 : iO9 l p ≠ 29) : sL9 l (p + 1) = sL9 l p ∧ sS9 l (p + 1) = sS9 l p := by
  have e : sF9 l (p + 1) = sF9 l p := by rw [sF9_succ, if_neg h1, List.append_nil]
  constructor
  · simp only [sL9, sT9, e, agk9_same h2]
  · simp only [sS9, e, agk9_same h2]
theorem s9_loop (h1 : iO9 l p = 28) (h0 : agk9 l p p = []) : sL9 l (p + 1) = sL9 l p ++ [(p, 0, iA9 l p)] ∧ sS9 l (p + 1) = sS9 l p ++ [p] := by
  have h2 : iO9 l p ≠ 29 := by omega
  have e : sF9 l (p + 1) = sF9 l p ++ [p] := by rw [sF9_succ, if_pos h1]
  constructor
  · simp only [sL9, sT9, e, agk9_same h2, List.map_append, List.map_cons, List.map_nil, h0]
    rfl
  · simp only [sS9, e, agk9_same h2, List.filter_append, List.filter_cons, List.filter_nil, h0]
    rfl
theorem sG9_self (hG : sG9 l p) : agk9 l p p = [] := by
  cases h : agk9 l p p with
  | nil => rfl
  | cons q qs =>
    have hq : q ∈ agk9 l p p := by rw [h]; exact List.mem_cons_self
    rw [mem_agk9] at hq
    obtain ⟨f, hf, he⟩ := (hG q hq.1).2 hq.2.1
    have := (mem_sS9.1 (List.mem_of_getLast? hf)).1
    rw [hq.2.2] at he
    omega
theorem sL9_at (hf : f < p) (h0 : iO9 l f = 28) : (sL9 l p)[ix9 l f]? = some (f, sT9 l f p, iA9 l f) := by
  obtain ⟨R, h1, -⟩ := sF9_split p hf h0
  rw [sL9, h1, ix9]
  simp
theorem s9_again (h1 : iO9 l p = 29) (hf : (sS9 l p).getLast? = some f) (hA : iA9 l p = (f : Int)) : sL9 l (p + 1) = (sL9 l p).set (ix9 l f) (f, p, iA9 l f) ∧ sS9 l (p + 1) = (sS9 l p).dropLast := by
  have h2 : iO9 l p ≠ 28 := by omega
  have e : sF9 l (p + 1) = sF9 l p := by rw [sF9_succ, if_neg h2, List.append_nil]
  obtain ⟨hfp, hf0, hfe⟩ := mem_sS9.1 (List.mem_of_getLast? hf)
  have hs : agk9 l f (p + 1) = [p] := by
    rw [agk9_succ, hfe, if_pos (by simp [isA9, h1, hA])]
    rfl
  have ho : ∀ g, g ≠ f → agk9 l g (p + 1) = agk9 l g p := fun g hg => by
    rw [agk9_succ, if_neg (by simp [isA9, h1, hA]; omega), List.append_nil]
  constructor
  · obtain ⟨R, hR, hlt⟩ := sF9_split p hfp hf0
    have a1 : ∀ xs : List Nat, (∀ x ∈ xs, x ≠ f) → (xs.map fun g => ((g, sT9 l g (p + 1), iA9 l g) : Lp)) = xs.map fun g => (g, sT9 l g p, iA9 l g) := fun xs hx => by
      apply List.map_congr_left
      intro g hg
      simp only [sT9, ho g (hx g hg)]
    have hl : ∀ x ∈ sF9 l f, x ≠ f := fun x hx => by have := (mem_sF9.1 hx).1; omega
    have hr : ∀ x ∈ R, x ≠ f := fun x hx => by have := hlt x hx; omega
    rw [sL9, sL9, e, hR, List.map_append, List.map_append, List.map_cons, List.map_cons, a1 _ hl, a1 _ hr, ix9, List.set_append_right _ _ (by simp)]
    simp [sT9, hs]
  · obtain ⟨ys, hy⟩ := List.getLast?_eq_some_iff.1 hf
    have hp := sS9_pw l p
    rw [hy, List.pairwise_append] at hp
    have a1 : sS9 l (p + 1) = (sS9 l p).filter fun g => g != f := by
      rw [sS9, sS9, e, List.filter_filter]
      apply List.filter_congr
      intro g hg
      by_cases hgf : g = f
      · subst hgf
        rw [hs]
        simp
      · rw [ho g hgf]
        simp [hgf]
    rw [a1, hy, List.dropLast_concat, List.filter_append, List.filter_eq_self.2 (fun g hg => by
      have := hp.2.2 g hg f (List.mem_singleton.2 rfl)
      simp
      omega)]
    simp
theorem sG9_agk (f : Nat) : ∀ p, sG9 l p → agk9 l f p = [] ∨ ∃ q, agk9 l f p = [q] ∧ f < q ∧ q < p ∧ iO9 l f = 28
  | 0, _ => .inl rfl
  | p + 1, hG => by
    rw [agk9_succ]
    by_cases h : isA9 l f p = true
    · rw [if_pos h]
      simp only [isA9, Bool.and_eq_true, beq_iff_eq] at h
      obtain ⟨g, hg, hA⟩ := (hG p (by omega)).2 h.1
      rw [h.2] at hA
      obtain rfl : f = g := by omega
      obtain ⟨h1, h2, h3⟩ := mem_sS9.1 (List.mem_of_getLast? hg)
      exact .inr ⟨p, by rw [h3]; rfl, h1, by omega, h2⟩
    · rw [if_neg h, List.append_nil]
      rcases sG9_agk f p (fun q hq => hG q (by omega)) with h1 | ⟨q, h1, h2, h3, h4⟩
      · exact .inl h1
      · exact .inr ⟨q, h1, h2, by omega, h4⟩
theorem sG9_len : ∀ p, sG9 l p → (sS9 l p).length ≤ 4
  | 0, _ => by simp [sS9, sF9]
  | p + 1, hG => by
    have hG' : sG9 l p := fun q hq => hG q (by omega)
    have ih := sG9_len p hG'
    by_cases h1 : iO9 l p = 28
    · rw [(s9_loop h1 (sG9_self hG')).2, List.length_append]
      have := (hG p (by omega)).1 h1
      simp
      omega
    · by_cases h2 : iO9 l p = 29
      · obtain ⟨f, hf, hA⟩ := (hG p (by omega)).2 h2
        rw [(s9_again h2 hf hA).2, List.length_dropLast]
        omega
      · rw [(s9_other h1 h2).2]; exact ih
theorem flatMap_same {α β : Type} {f g : α → List β} : ∀ xs : List α, (∀ x ∈ xs, f x = g x) → xs.flatMap f = xs.flatMap g
  | [], _ => rfl
  | x :: xs, h => by
    rw [List.flatMap_cons, List.flatMap_cons, h x List.mem_cons_self, flatMap_same xs (fun y hy => h y (List.mem_cons_of_mem _ hy))]
theorem flatMap_if {α β : Type} (c : α → Bool) (g : α → β) : ∀ xs : List α, (xs.flatMap fun x => if c x = true then [g x] else []) = (xs.filter c).map g
  | [] => rfl
  | x :: xs => by
    rw [List.flatMap_cons, flatMap_if c g xs, List.filter_cons]
    split <;> simp
/-- Each OpLoop has one OpAgain: the loops by definition are those that were told on the way. -/
def One9 (l : List Ins) : Prop := ∀ f, f < l.length → iO9 l f = 28 → ∃ t, agk9 l f l.length = [t] ∧ f < t
theorem One9.loops (h : One9 l) : lpU9 l l.length = sL9 l l.length := by
  rw [lpU9, sL9, sF9, ← flatMap_if]
  refine flatMap_same _ fun f hf => ?_
  rw [lp19]
  by_cases h0 : iO9 l f = 28
  · obtain ⟨t, ht, -⟩ := h f (List.mem_range.1 hf) h0
    rw [if_pos h0, if_pos (by simp [h0]), lpk9, ht, sT9, ht]
    rfl
  · rw [if_neg h0, if_neg (by simp [h0])]
theorem One9.mem (h : One9 l) {x : Lp} (hx : x ∈ lpU9 l l.length) : iO9 l x.1 = 28 ∧ agk9 l x.1 l.length = [x.2.1] ∧ x.1 < x.2.1 ∧ x.2.1 < l.length ∧ iO9 l x.2.1 = 29 ∧ iA9 l x.2.1 = x.1 := by
  obtain ⟨f, hf, h0, p, hp, rfl⟩ := mem_lpU9.1 hx
  obtain ⟨t, ht, hlt⟩ := h f hf h0
  have hp2 := mem_agk9.1 hp
  rw [ht, List.mem_singleton] at hp
  subst hp
  exact ⟨h0, ht, hlt, hp2⟩
/-- Of a loop with one OpAgain: ahead of it it is open. -/
theorem agk9_open {t : Nat} (h : agk9 l f l.length = [t]) (hq : q ≤ l.length) : agk9 l f q = [] ↔ q ≤ t := by
  have ht : t ∈ agk9 l f l.length := by rw [h]; exact List.mem_singleton.2 rfl
  rw [mem_agk9] at ht
  constructor
  · intro h0
    by_cases hlt : t < q
    · have : t ∈ agk9 l f q := mem_agk9.2 ⟨hlt, ht.2⟩
      rw [h0] at this
      cases this
    · omega
  · intro hle
    cases hk : agk9 l f q with
    | nil => rfl
    | cons r rs =>
      have hr : r ∈ agk9 l f q := by rw [hk]; exact List.mem_cons_self
      rw [mem_agk9] at hr
      have : r ∈ agk9 l f l.length := mem_agk9.2 ⟨by omega, hr.2⟩
      rw [h, List.mem_singleton] at this
      omega
theorem One9.around (h : One9 l) (hq : q ≤ l.length) : (lq9 (lpU9 l l.length) q).length = (sS9 l q).length := by
  have hlen : ∀ (xs : List Nat) (g : Nat → Lp), ((xs.map g).filter fun x => wi9 x q).length = (xs.filter fun f => wi9 (g f) q).length := fun xs g => by
    rw [List.filter_map, List.length_map]
    rfl
  rw [h.loops, lq9, sL9, hlen]
  have : sF9 l l.length = (List.range l.length).filter fun f => iO9 l f == 28 := rfl
  rw [this, List.filter_filter, sS9, sF9, List.filter_filter]
  obtain ⟨k, hk⟩ : ∃ k, l.length = q + k := ⟨l.length - q, by omega⟩
  rw [show List.range l.length = List.range q ++ (List.range k).map (q + ·) by rw [hk, List.range_add], List.filter_append]
  have h2 : ((List.range k).map (q + ·)).filter (fun a => wi9 (a, sT9 l a l.length, iA9 l a) q && (iO9 l a == 28)) = [] := by
    rw [List.filter_eq_nil_iff]
    intro a ha
    rw [List.mem_map] at ha
    obtain ⟨b, -, rfl⟩ := ha
    rw [Bool.and_eq_true, wi9_iff]
    intro hh
    have : q + b < q := hh.1.1
    omega
  rw [h2, List.append_nil]
  congr 1
  apply List.filter_congr
  intro f hf
  by_cases h0 : iO9 l f = 28
  · obtain ⟨t, ht, hlt⟩ := h f (by have := List.mem_range.1 hf; omega) h0
    have e : (agk9 l f q).isEmpty = decide (q ≤ t) := by
      rw [Bool.eq_iff_iff, List.isEmpty_iff, agk9_open ht hq, decide_eq_true_iff]
    have e2 : sT9 l f l.length = t := by rw [sT9, ht]; rfl
    rw [e, e2, wi9, decide_eq_true (List.mem_range.1 hf)]
    simp
  · have : (iO9 l f == 28) = false := by simpa using h0
    rw [this, Bool.and_false, Bool.and_false]
/-- The definition, by the stack. -/
theorem stack9 (hc : codM l = true) : (okL9 l = true ∧ ns9 (lpU9 l l.length) l.length = true) ↔ (sG9 l l.length ∧ sS9 l l.length = []) := by
  obtain ⟨c1, c2, c3⟩ := codM_all hc
  constructor
  · rintro ⟨hok, hns⟩
    rw [okL9, Bool.and_eq_true, List.all_eq_true, List.all_eq_true] at hok
    have okf : ∀ f, f < l.length → okF9 l f = true := fun f hf => hok.1 f (List.mem_range.2 hf)
    have oka : ∀ p, p < l.length → okA9 l p = true := fun p hp => hok.2 p (List.mem_range.2 hp)
    have hone : One9 l := fun f hf h0 => okF9_one (okf f hf) h0
    rw [ns9, Bool.and_eq_true, List.all_eq_true, List.all_eq_true] at hns
    have hdeep : ∀ q, q < l.length → (sS9 l q).length ≤ 4 := fun q hq => by
      rw [← hone.around (Nat.le_of_lt hq)]
      simpa using hns.2 q (List.mem_range.2 hq)
    have key : ∀ x ∈ lpU9 l l.length, ∀ y ∈ lpU9 l l.length, y.1 < x.1 → np9 x y = true := fun x hx y hy hlt => by
      obtain ⟨i, hi, rfl⟩ := List.getElem_of_mem hx
      obtain ⟨j, hj, rfl⟩ := List.getElem_of_mem hy
      have hso := sorted9 okf l.length (Nat.le_refl _)
      rw [List.pairwise_iff_getElem] at hso
      have hji : j < i := by
        rcases Nat.lt_trichotomy j i with h | rfl | h
        · exact h
        · omega
        · have := hso i j hi hj h; omega
      have a := hns.1 i (List.mem_range.2 hi)
      rw [List.all_eq_true] at a
      have b := a j (List.mem_range.2 hji)
      rw [List.getD_eq_getElem?_getD, List.getD_eq_getElem?_getD, List.getElem?_eq_getElem hi, List.getElem?_eq_getElem hj] at b
      exact b
    refine ⟨fun q hq => ⟨fun h28 => ?_, fun h29 => ?_⟩, ?_⟩
    · obtain ⟨t, ht, hlt⟩ := hone q hq h28
      have hm := mem_agk9.1 (show t ∈ agk9 l q l.length by rw [ht]; exact List.mem_singleton.2 rfl)
      have h0 : agk9 l q q = [] := (agk9_open ht (by omega)).2 (by omega)
      have := hdeep (q + 1) (by omega)
      rw [(s9_loop h28 h0).2, List.length_append] at this
      simp at this
      omega
    · have ha := oka q hq
      rw [okA9, if_pos h29, Bool.and_eq_true, decide_eq_true_eq, beq_iff_eq] at ha
      obtain ⟨m1, m2, m3⟩ := iO9_mem hq
      have hnn := inM_nn (c3 _ m1)
      rw [← m3] at hnn
      obtain ⟨a, hA⟩ : ∃ a : Nat, iA9 l q = a := ⟨(iA9 l q).toNat, by omega⟩
      rw [hA, Int.toNat_natCast] at ha
      have haq := agk9 l a l.length
      obtain ⟨t, ht, hlt⟩ := hone a (by omega) ha.2
      have hq2 : q ∈ agk9 l a l.length := mem_agk9.2 ⟨hq, h29, hA⟩
      rw [ht, List.mem_singleton] at hq2
      subst hq2
      have hma : a ∈ sS9 l q := mem_sS9.2 ⟨hlt, ha.2, (agk9_open ht (by omega)).2 (Nat.le_refl _)⟩
      cases hl : (sS9 l q).getLast? with
      | none => rw [List.getLast?_eq_none_iff.1 hl] at hma; cases hma
      | some g =>
        refine ⟨g, rfl, ?_⟩
        have hle := sS9_last hl hma
        by_cases e : a = g
        · rw [hA, e]
        · obtain ⟨g1, g2, g3⟩ := mem_sS9.1 (List.mem_of_getLast? hl)
          obtain ⟨u, hu, hgu⟩ := hone g (by omega) g2
          have hqu := (agk9_open hu (by omega)).1 g3
          have hmu := mem_agk9.1 (show u ∈ agk9 l g l.length by rw [hu]; exact List.mem_singleton.2 rfl)
          have hx : ((g, u, iA9 l g) : Lp) ∈ lpU9 l l.length := mem_lpU9.2 ⟨g, by omega, g2, u, by rw [hu]; exact List.mem_singleton.2 rfl, rfl⟩
          have hy : ((a, q, iA9 l a) : Lp) ∈ lpU9 l l.length := mem_lpU9.2 ⟨a, by omega, ha.2, q, by rw [ht]; exact List.mem_singleton.2 rfl, rfl⟩
          have hn := key _ hx _ hy (by show a < g; omega)
          exfalso
          have hqu2 : q ≠ u := fun e2 => by
            have := hmu.2.2
            rw [← e2, hA] at this
            omega
          have c1 : cm9 (g, u, iA9 l g) (a, q, iA9 l a) = true := by simp only [cm9, Bool.and_eq_true, decide_eq_true_eq]; omega
          have c2 : is9 (g, u, iA9 l g) (a, q, iA9 l a) = false := by
            rw [Bool.eq_false_iff]
            simp only [is9, ne_eq, Bool.and_eq_true, wi9_iff]
            omega
          have c3 : is9 (a, q, iA9 l a) (g, u, iA9 l g) = false := by
            rw [Bool.eq_false_iff]
            simp only [is9, ne_eq, Bool.and_eq_true, wi9_iff]
            omega
          rw [np9, c1, c2, c3] at hn
          cases hn
    · rw [List.eq_nil_iff_forall_not_mem]
      intro f hf
      obtain ⟨f1, f2, f3⟩ := mem_sS9.1 hf
      obtain ⟨t, ht, -⟩ := hone f f1 f2
      rw [ht] at f3
      cases f3
  · rintro ⟨hG, hS⟩
    have hone : One9 l := fun f hf h0 => by
      rcases sG9_agk f l.length hG with h1 | ⟨q, h1, h2, h3, -⟩
      · have : f ∈ sS9 l l.length := mem_sS9.2 ⟨hf, h0, h1⟩
        rw [hS] at this
        cases this
      · exact ⟨q, h1, h2⟩
    have okf : ∀ f, f < l.length → okF9 l f = true := fun f hf => by
      rw [okF9]
      split
      · rename_i h0
        obtain ⟨t, ht, hlt⟩ := hone f hf h0
        rw [ht]
        simp
        omega
      · rfl
    have oka : ∀ p, p < l.length → okA9 l p = true := fun p hp => by
      rw [okA9]
      split
      · rename_i h0
        obtain ⟨f, hf, hA⟩ := (hG p hp).2 h0
        obtain ⟨f1, f2, -⟩ := mem_sS9.1 (List.mem_of_getLast? hf)
        rw [hA, Int.toNat_natCast, f2, decide_eq_true (by omega)]
        rfl
      · rfl
    refine ⟨by rw [okL9, Bool.and_eq_true, List.all_eq_true, List.all_eq_true]; exact ⟨fun f hf => okf f (List.mem_range.1 hf), fun p hp => oka p (List.mem_range.1 hp)⟩, ?_⟩
    rw [ns9, Bool.and_eq_true, List.all_eq_true, List.all_eq_true]
    constructor
    · intro i hi
      rw [List.mem_range] at hi
      rw [List.all_eq_true]
      intro j hj
      rw [List.mem_range] at hj
      have hj2 : j < (lpU9 l l.length).length := by omega
      rw [List.getD_eq_getElem?_getD, List.getD_eq_getElem?_getD, List.getElem?_eq_getElem hi, List.getElem?_eq_getElem hj2, Option.getD_some, Option.getD_some]
      have hso := sorted9 okf l.length (Nat.le_refl _)
      rw [List.pairwise_iff_getElem] at hso
      have hlt := hso j i hj2 hi hj
      obtain ⟨x1, x2, x3, x4, x5, x6⟩ := hone.mem (List.getElem_mem hi)
      obtain ⟨y1, y2, y3, y4, y5, y6⟩ := hone.mem (List.getElem_mem hj2)
      generalize (lpU9 l l.length)[i] = x at *
      generalize (lpU9 l l.length)[j] = y at *
      rw [np9]
      cases hcm : cm9 x y with
      | false => rfl
      | true =>
        simp only [cm9, Bool.and_eq_true, decide_eq_true_eq] at hcm
        have : is9 x y = true := by
          rw [is9, Bool.and_eq_true, wi9_iff, wi9_iff]
          refine ⟨⟨hlt, by omega⟩, by omega, ?_⟩
          by_cases hh : x.2.1 ≤ y.2.1
          · exact hh
          · obtain ⟨f, hf, hA⟩ := (hG y.2.1 y4).2 y5
            rw [y6] at hA
            obtain rfl : y.1 = f := by omega
            have := sS9_last hf (mem_sS9.2 ⟨hcm.1, x1, (agk9_open x2 (by omega)).2 (by omega)⟩)
            omega
        rw [this]
        rfl
    · intro q hq
      rw [List.mem_range] at hq
      rw [decide_eq_true_eq, hone.around (Nat.le_of_lt hq)]
      exact sG9_len q (fun r hr => hG r (by omega))
theorem stack9_loops (hG : sG9 l l.length) (hS : sS9 l l.length = []) : lpU9 l l.length = sL9 l l.length := by
  refine One9.loops fun f hf h0 => ?_
  rcases sG9_agk f l.length hG with h1 | ⟨q, h1, h2, h3, -⟩
  · have : f ∈ sS9 l l.length := mem_sS9.2 ⟨hf, h0, h1⟩
    rw [hS] at this
    cases this
  · exact ⟨q, h1, h2⟩
end
end Go.Proofs.Ytfchdggefedgoaa
