/-
  Layer 11, law CallsRound: modules by bits, a call more.
-/
import Derived.Test.YtfbabbddiplgkaaFae
namespace Go.Proofs.Ytfbabbddiplgkaa
open Go.RowKit
set_option maxRecDepth 100000
set_option linter.unusedSimpArgs false
set_option linter.unusedVariables false

/-- The number whose bits tell of the first i. -/
def xv11 (b : Nat → Bool) : Nat → Nat
  | 0 => 0
  | i + 1 => if b i then xv11 b i ||| 2 ^ i else xv11 b i
theorem xv11_bit (b : Nat → Bool) : ∀ i n, (xv11 b i).testBit n = (decide (n < i) && b n)
  | 0, n => by simp [xv11]
  | i + 1, n => by
    rw [xv11]
    by_cases hb : b i = true
    · rw [if_pos hb, Nat.testBit_or, xv11_bit b i n, Nat.testBit_two_pow]
      by_cases h : i = n
      · subst h
        simp [hb]
      · have h2 : decide (i = n) = false := by simpa using h
        rw [h2, Bool.or_false]
        congr 1
        exact decide_eq_decide.2 (by omega)
    · rw [if_neg hb, xv11_bit b i n]
      by_cases h : n = i
      · subst h
        have : b n = false := by simpa using hb
        simp [this]
      · congr 1
        exact decide_eq_decide.2 (by omega)
theorem xv11_lt (b : Nat → Bool) : ∀ i, xv11 b i < 2 ^ i
  | 0 => by simp [xv11]
  | i + 1 => by
    have h := xv11_lt b i
    have h2 : (2 : Nat) ^ (i + 1) = 2 ^ i + 2 ^ i := by rw [Nat.pow_succ]; omega
    rw [xv11]
    split
    · exact Nat.or_lt_two_pow (by omega) (by omega)
    · omega
theorem xv11_16 (b : Nat → Bool) {i : Nat} (h : i ≤ 16) : xv11 b i < 65536 := by
  have h1 := xv11_lt b i
  have h2 : (2 : Nat) ^ i ≤ 2 ^ 16 := Nat.pow_le_pow_right (by omega) h
  omega
theorem or16_11 {x i : Nat} (hx : x < 65536) (h : i < 16) : x ||| 2 ^ i < 65536 := by
  have h2 : (2 : Nat) ^ i < 2 ^ 16 := Nat.pow_lt_pow_right (by omega) h
  exact Nat.or_lt_two_pow (n := 16) hx h2
theorem bt11_nat {R : List Int} {k n x : Nat} (h : R[k]? = some (x : Int)) : bt11 R k n = x.testBit n := by
  rw [bt11, h]
  rw [Nat.testBit_eq_decide_div_mod_eq]
  have e : ((x : Int) / 2 ^ n) % 2 = ((x / 2 ^ n % 2 : Nat) : Int) := by simp
  show (((x : Int) / 2 ^ n) % 2 == 1) = _
  rw [e, Bool.eq_iff_iff]
  simp
  omega
theorem cl11_mc {b : Nat → Bool} {j : Nat} (hj : j < 16) : cl11 (mc11 b) j = b j := by
  rw [cl11, mc11, cd11, List.any_append, List.any_map, Bool.eq_iff_iff]
  simp only [Bool.or_eq_true, List.any_eq_true, List.mem_filter, List.mem_range, Function.comp]
  constructor
  · rintro (⟨i, ⟨-, h1⟩, h2⟩ | ⟨x, h1, h2⟩)
    · simp at h2
      have : i = j := by omega
      rw [← this]
      exact h1
    · rw [List.mem_singleton.1 h1] at h2
      simp at h2
  · intro h
    exact .inl ⟨j, ⟨hj, h⟩, by simp⟩
theorem bd11_mc {b : Nat → Bool} {N : Nat} (h : ∀ n, N ≤ n → b n = false) : bd11 (mc11 b) N = false := by
  rw [bd11, List.any_eq_false]
  intro x hx
  rcases List.mem_append.1 hx with hx | hx
  · rw [cd11, List.mem_map] at hx
    obtain ⟨n, hn, rfl⟩ := hx
    have hb := (List.mem_filter.1 hn).2
    have : n < N := by
      by_cases h1 : n < N
      · exact h1
      · rw [h n (by omega)] at hb
        cases hb
    simp
    omega
  · rw [List.mem_singleton.1 hx]
    simp
theorem co11_md {N : Nat} {R : List Int} {k : Nat} (hk : k < N) : co11 (md11 N R) k = mc11 (bt11 R k) := by
  rw [co11, md11]
  simp [List.getElem?_map, List.getElem?_range, hk]
/-- A module of at most sixteen methods by numbers: who calls whom. -/
theorem md11_e {N : Nat} {R : List Int} {k j : Nat} (hk : k < N) (hj : j < 16) : e11 (md11 N R) k j = bt11 R k j := by rw [e11, co11_md hk, cl11_mc hj]
theorem md11_ba {N : Nat} {R : List Int} (h : ∀ k, k < N → ∀ n, N ≤ n → bt11 R k n = false) : ba11 (md11 N R) = false := by
  refine ba11_of fun k hk => ?_
  rw [md11_len] at hk ⊢
  rw [co11_md hk]
  exact bd11_mc (h k hk)
theorem ro11_by {d : Md} (h : ba11 d = false) {r : Nat → Nat} (hr : Rk11 (e11 d) d.s.length r) : (ro11 d).2 = 0 := by
  obtain ⟨o, ho⟩ := or11_rk hr
  rw [ro11, if_neg (by rw [h]; decide), ho]
/-- A call more: the error, just if there is a round. -/
theorem ro11_more {d d' : Md} {a b : Nat} (h0 : (ro11 d).2 = 0) (hl : d'.s.length = d.s.length) (hb' : ba11 d' = false) (ha : a < d.s.length) (hb : b < d.s.length)
    (he : ∀ k j, k < d.s.length → j < d.s.length → e11 d' k j = ad11 (e11 d) b a k j) : (ro11 d').2 = if (decide (a = b) || decide (b ∈ lk11 d a)) = true then 110 else 0 := by
  obtain ⟨r, hr, -⟩ := ro11_rk h0
  by_cases hc : a = b ∨ Le11 (e11 d) d.s.length a b
  · have h1 : (decide (a = b) || decide (b ∈ lk11 d a)) = true := by
      rw [Bool.or_eq_true, decide_eq_true_iff, decide_eq_true_iff]
      exact hc.imp id fun h => (lk11_mem h0 ha).2 h
    rw [if_pos h1, ro11, if_neg (by rw [hb']; decide), hl]
    cases ho : or11 (e11 d') d.s.length with
    | none => rfl
    | some o =>
      exfalso
      obtain ⟨h2, h3⟩ := or11_ok ho
      have h4 := h2.rk h3
      have h5 : Rk11 (ad11 (e11 d) b a) d.s.length (fun k => o.idxOf k) := fun k j hk hj h => h4 k j hk hj (by rw [he k j hk hj]; exact h)
      obtain ⟨o2, h6⟩ := or11_rk h5
      rw [ad11_cyc ha hb hc] at h6
      cases h6
  · have h1 : ¬ (decide (a = b) || decide (b ∈ lk11 d a)) = true := by
      rw [Bool.or_eq_true, decide_eq_true_iff, decide_eq_true_iff]
      exact fun h => hc (h.imp id fun h => (lk11_mem h0 ha).1 h)
    rw [if_neg h1]
    obtain ⟨o, ho⟩ := ad11_ok ha hr (fun e => hc (.inl e)) (fun h => hc (.inr h))
    obtain ⟨h2, h3⟩ := or11_ok ho
    have h4 := h2.rk h3
    refine ro11_by hb' (r := fun k => o.idxOf k) ?_
    rw [hl]
    exact fun k j hk hj h => h4 k j hk hj (by rw [← he k j hk hj]; exact h)
/-- Whom the law lets k call. -/
def rb11 (R : List Int) (tu : Bool) (k n : Nat) : Bool := ((decide (k < n)) != tu) && (decide (n ≠ k) && bt11 R k n)
/-- The law's numbers. -/
def rl11 (R : List Int) (tu : Bool) (N i : Nat) : List Int := (List.range i).map fun k => ((xv11 (rb11 R tu k) N : Nat) : Int)
theorem rl11_len (R : List Int) (tu : Bool) (N i : Nat) : (rl11 R tu N i).length = i := by simp [rl11]
theorem rl11_at {R : List Int} {tu : Bool} {N i k : Nat} (h : k < i) : (rl11 R tu N i)[k]? = some ((xv11 (rb11 R tu k) N : Nat) : Int) := by
  rw [rl11, List.getElem?_map, List.getElem?_range h]
  rfl
theorem rl11_next (R : List Int) (tu : Bool) (N i : Nat) : rl11 R tu N (i + 1) = rl11 R tu N i ++ [((xv11 (rb11 R tu i) N : Nat) : Int)] := by
  rw [rl11, List.range_succ, List.map_append]
  rfl
theorem rl11_bt {R : List Int} {tu : Bool} {N k n : Nat} (hk : k < N) : bt11 (rl11 R tu N N) k n = (decide (n < N) && rb11 R tu k n) := by rw [bt11_nat (rl11_at hk), xv11_bit]
theorem rl11_zero {R : List Int} {tu : Bool} {N : Nat} (hN : N ≤ 16) : (ro11 (md11 N (rl11 R tu N N))).2 = 0 := by
  refine ro11_by (md11_ba fun k hk n hn => by rw [rl11_bt hk, decide_eq_false (by omega)]; rfl) (r := fun k => if tu then k else N - 1 - k) ?_
  rw [md11_len]
  intro k j hk hj h
  rw [md11_e hk (by omega), rl11_bt hk, rb11] at h
  simp only [Bool.and_eq_true, decide_eq_true_eq] at h
  obtain ⟨h1, h2, h3, h4⟩ := h
  cases tu with
  | true =>
    simp at h2 ⊢
    omega
  | false =>
    simp at h2 ⊢
    omega
/-- .. with a call more. -/
def rm11 (R : List Int) (tu : Bool) (N a b : Nat) : List Int := (rl11 R tu N N).set b ((xv11 (rb11 R tu b) N ||| 2 ^ a : Nat) : Int)
theorem rm11_at {R : List Int} {tu : Bool} {N a b k : Nat} (hk : k < N) : (rm11 R tu N a b)[k]? = some ((if k = b then xv11 (rb11 R tu b) N ||| 2 ^ a else xv11 (rb11 R tu k) N : Nat) : Int) := by
  rw [rm11, List.getElem?_set]
  by_cases h : b = k
  · subst h
    rw [if_pos rfl, if_pos rfl, rl11_len, if_pos hk]
  · rw [if_neg h, if_neg fun e => h e.symm, rl11_at hk]
theorem rm11_bt {R : List Int} {tu : Bool} {N a b k n : Nat} (hk : k < N) (ha : a < N) : bt11 (rm11 R tu N a b) k n = (bt11 (rl11 R tu N N) k n || (k == b && n == a)) := by
  rw [bt11_nat (rm11_at hk), bt11_nat (rl11_at hk)]
  by_cases h : k = b
  · subst h
    rw [if_pos rfl, Nat.testBit_or, Nat.testBit_two_pow]
    congr 1
    rw [Bool.eq_iff_iff]
    simp
    exact ⟨fun h => h.symm, fun h => h.symm⟩
  · rw [if_neg h]
    have : (k == b) = false := by simpa using h
    rw [this]
    simp
theorem rm11_ro {R : List Int} {tu : Bool} {N a b : Nat} (hN : N ≤ 16) (ha : a < N) (hb : b < N) : (ro11 (md11 N (rm11 R tu N a b))).2 = if (decide (a = b) || decide (b ∈ lk11 (md11 N (rl11 R tu N N)) a)) = true then 110 else 0 := by
  refine ro11_more (rl11_zero hN) (by rw [md11_len, md11_len]) (md11_ba fun k hk n hn => ?_) (by rw [md11_len]; exact ha) (by rw [md11_len]; exact hb) fun k j hk hj => ?_
  · rw [rm11_bt hk ha, rl11_bt hk, decide_eq_false (by omega)]
    have : (n == a) = false := by simp; omega
    rw [this]
    simp
  · rw [md11_len] at hk hj
    rw [md11_e hk (by omega), rm11_bt hk ha, ad11, md11_e hk (by omega)]
end Go.Proofs.Ytfbabbddiplgkaa
