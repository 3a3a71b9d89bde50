/-
  Reading a method's head, by definition: a number of a field, a count and as many kinds, the whole; each over a place and an error so far. On lists alone.
-/
import Derived.Test.YtjdalgejejllgaaDoorHh
namespace Go.Proofs.YtjdalgejejllgaaDoor
open Go.RowKit
set_option maxRecDepth 100000
set_option linter.unusedSimpArgs false
set_option linter.unusedVariables false

def nE (l : List Int) (q W lo hi : Int) : Int := if getE l q W = 0 then (if lo ≤ getV l q W ∧ getV l q W ≤ hi then 0 else 70) else getE l q W
def rN (l : List Int) (W lo hi : Int) (s : Int × Int) : Int × Int × Int :=
  if s.2 = 0 then (if nE l s.1 W lo hi = 0 then (getV l s.1 W, getN l s.1 W, 0) else (0, s.1, nE l s.1 W lo hi)) else (0, s.1, s.2)
def rKs (l : List Int) : Nat → Int × Int → List Int × Int × Int
  | 0, s => ([], s.1, s.2)
  | k + 1, s => ((rN l 1 1 3 s).1 :: (rKs l k (rN l 1 1 3 s).2).1, (rKs l k (rN l 1 1 3 s).2).2)
def rK (l : List Int) (hi : Int) (s : Int × Int) : List Int × Int × Int := rKs l (rN l 1 0 hi s).1.toNat (rN l 1 0 hi s).2
theorem rN_err {l : List Int} {W lo hi q e : Int} (he : e ≠ 0) : rN l W lo hi (q, e) = (0, q, e) := by rw [rN, if_neg he]
theorem rN_yes {l : List Int} {W lo hi q : Int} (h : nE l q W lo hi = 0) : rN l W lo hi (q, 0) = (getV l q W, getN l q W, 0) := by rw [rN, if_pos rfl, if_pos h]
theorem rN_no {l : List Int} {W lo hi q : Int} (h : nE l q W lo hi ≠ 0) : rN l W lo hi (q, 0) = (0, q, nE l q W lo hi) := by rw [rN, if_pos rfl, if_neg h]
theorem rKs_err {l : List Int} {q e : Int} (he : e ≠ 0) : ∀ k, (rKs l k (q, e)).2 = (q, e)
  | 0 => rfl
  | k + 1 => by rw [rKs, rN_err he]; exact rKs_err he k
theorem rK_err {l : List Int} {hi q e : Int} (he : e ≠ 0) : rK l hi (q, e) = ([], q, e) := by rw [rK, rN_err he]; rfl
theorem rKs_len (l : List Int) : ∀ k s, (rKs l k s).1.length = k
  | 0, s => rfl
  | k + 1, s => by rw [rKs, List.length_cons, rKs_len l k]
theorem rKs_snoc (l : List Int) : ∀ k s, rKs l (k + 1) s = ((rKs l k s).1 ++ [(rN l 1 1 3 (rKs l k s).2).1], (rN l 1 1 3 (rKs l k s).2).2)
  | 0, s => by simp [rKs]
  | k + 1, s => by
    have := rKs_snoc l k (rN l 1 1 3 s).2
    rw [rKs, this]
    rfl
/-! What getting one byte at a place comes to. -/
theorem nE_arg {l : List Int} {q : Int} (h : q < 0 ∨ (l.length : Int) < q) (W lo hi : Int) (h1 : 1 ≤ W) (h2 : W ≤ 7) : nE l q W lo hi = 2 := by
  have e := cut_arg (n := W) h
  have : getE l q W = 2 := by rw [get_eq (by omega), e.1]; simp
  rw [nE, this]; simp
theorem getE_small {l : List Int} (hb : Byt l) {q W : Int} (h1 : 1 ≤ W) (h2 : W ≤ 7) : getE l q W = cutE l q W := by
  refine get_small (by omega) ?_
  have hl := cutL_le l q W 7 (by omega)
  have := num_lt (byt_cut hb q W)
  have h3 : p256 (cutL l q W).length ≤ p256 7 := by
    exact p256_le hl
  have h4 : p256 7 = 72057594037927936 := by decide
  omega
theorem getB_short {l : List Int} (hb : Byt l) {q W : Int} (h0 : 0 ≤ q) (hq : q ≤ l.length) (h1 : 1 ≤ W) (h2 : W ≤ 7) (h : (l.length : Int) < q + W) : getE l q W = 10 := by
  rw [getE_small hb h1 h2, (cut_short h0 hq (by omega)).1]
theorem getB_long {l : List Int} (hb : Byt l) {q W : Int} (h0 : 0 ≤ q) (h1 : 1 ≤ W) (h2 : W ≤ 7) (h : q + W ≤ l.length) : getE l q W = 0 ∧ getV l q W = num ((l.drop q.toNat).take W.toNat) ∧ getN l q W = q + W := by
  have e := cut_yes (l := l) (p := q) (n := W) h0 (by omega) (by omega)
  have : getE l q W = 0 := by rw [getE_small hb h1 h2, e.1]
  exact ⟨this, by rw [getV, if_pos this, e.2.1], by rw [getN, if_pos this]⟩
theorem getB_byte {l : List Int} (hb : Byt l) {q : Nat} (h : q < l.length) : getE l q 1 = 0 ∧ getV l q 1 = l[q] ∧ getN l q 1 = q + 1 := by
  obtain ⟨h1, h2, h3⟩ := getB_long hb (q := q) (W := 1) (by omega) (by omega) (by omega) (by omega)
  refine ⟨h1, ?_, h3⟩
  rw [h2, Int.toNat_natCast, show (1 : Int).toNat = 1 from rfl, List.drop_eq_getElem_cons h, List.take_succ_cons, List.take_zero, num, num]
  omega
theorem nE_byte {l : List Int} (hb : Byt l) {q : Nat} (h : q < l.length) (lo hi : Int) : nE l q 1 lo hi = if lo ≤ l[q] ∧ l[q] ≤ hi then 0 else 70 := by
  obtain ⟨h1, h2, h3⟩ := getB_byte hb h
  rw [nE, if_pos h1, h2]
theorem nE_end {l : List Int} (hb : Byt l) {q : Nat} (h : q = l.length) (lo hi : Int) : nE l q 1 lo hi = 10 := by
  have := getB_short hb (q := q) (W := 1) (by omega) (by omega) (by omega) (by omega) (by omega)
  rw [nE, this]; simp
/-! The whole, part by part. -/
def fs7 : List (Int × Int × Int) := [(1, 1, 2), (1, 0, 1), (3, 0, 1048576), (2, 0, 256), (2, 0, 1024)]
def rF (l : List Int) : List (Int × Int × Int) → Int × Int → List Int × Int × Int
  | [], s => ([], s.1, s.2)
  | (W, lo, hi) :: r, s => ((rN l W lo hi s).1 :: (rF l r (rN l W lo hi s).2).1, (rF l r (rN l W lo hi s).2).2)
def mk7 (A B : List Int) (r : List Int × Int × Int) : Mh × Int × Int := if r.2.2 = 0 then (⟨A, B, r.1.getD 0 0, r.1.getD 1 0 == 1, r.1.getD 2 0, r.1.getD 3 0, r.1.getD 4 0⟩, r.2.1, 0) else (Mh.zero, 0, r.2.2)
def rdQ (l : List Int) (p : Int) : Mh × Int × Int := mk7 (rK l 4 (p, 0)).1 (rK l (16 - (rK l 4 (p, 0)).1.length) (rK l 4 (p, 0)).2).1 (rF l fs7 (rK l (16 - (rK l 4 (p, 0)).1.length) (rK l 4 (p, 0)).2).2)
theorem rF_err {l : List Int} {q e : Int} (he : e ≠ 0) : ∀ fs, (rF l fs (q, e)).2 = (q, e)
  | [] => rfl
  | (W, lo, hi) :: r => by rw [rF, rN_err he]; exact rF_err he r
theorem mk7_no {A B : List Int} {r : List Int × Int × Int} {e : Int} (h : r.2.2 = e) (he : e ≠ 0) : mk7 A B r = (Mh.zero, 0, e) := by rw [mk7, h, if_neg he]
theorem rdQ_1 {l : List Int} {p : Int} {K1 : List Int} {n1 e1 : Int} (h : rK l 4 (p, 0) = (K1, n1, e1)) (he : e1 ≠ 0) : rdQ l p = (Mh.zero, 0, e1) := by
  rw [rdQ, h, rK_err he, rF_err he |> fun h => mk7_no (by rw [h]) he]
theorem rdQ_2 {l : List Int} {p : Int} {K1 K2 : List Int} {n1 n2 e2 : Int} (h : rK l 4 (p, 0) = (K1, n1, 0)) (h2 : rK l (16 - K1.length) (n1, 0) = (K2, n2, e2)) (he : e2 ≠ 0) : rdQ l p = (Mh.zero, 0, e2) := by
  rw [rdQ, h, h2, rF_err he |> fun h => mk7_no (by rw [h]) he]
theorem rdQ_3 {l : List Int} {p : Int} {K1 K2 : List Int} {n1 n2 : Int} (h : rK l 4 (p, 0) = (K1, n1, 0)) (h2 : rK l (16 - K1.length) (n1, 0) = (K2, n2, 0)) : rdQ l p = mk7 K1 K2 (rF l fs7 (n2, 0)) := by
  rw [rdQ, h, h2]
theorem rdQ_arg {l : List Int} {p : Int} (h : p < 0 ∨ (l.length : Int) < p) : rdQ l p = (Mh.zero, 0, 2) := by
  refine rdQ_1 (K1 := []) (n1 := p) ?_ (by decide)
  have e := nE_arg h 1 0 4 (by decide) (by decide)
  rw [rK, rN_no (by rw [e]; decide), e]
  rfl
theorem rKs_ok {l : List Int} (hb : Byt l) : ∀ (k : Nat) (q : Nat) (K : List Int) (n : Int), q ≤ l.length → rKs l k ((q : Int), 0) = (K, n, 0) → n = ((q + k : Nat) : Int) ∧ q + k ≤ l.length ∧ K.length = k ∧ K = (l.drop q).take k ∧ kO K = true
  | 0, q, K, n, hq, h => by
    simp only [rKs, Prod.mk.injEq] at h
    obtain ⟨rfl, rfl, _⟩ := h
    exact ⟨by simp, by omega, rfl, by simp, rfl⟩
  | k + 1, q, K, n, hq, h => by
    by_cases h1 : q < l.length
    · have e := nE_byte hb h1 1 3
      by_cases hx : 1 ≤ l[q] ∧ l[q] ≤ 3
      · rw [if_pos hx] at e
        obtain ⟨g1, g2, g3⟩ := getB_byte hb h1
        rw [rKs, rN_yes e, g2, g3] at h
        simp only [Prod.mk.injEq] at h
        obtain ⟨rfl, h2⟩ := h
        obtain ⟨a1, a2, a3, a4, a5⟩ := rKs_ok hb k (q + 1) _ n (by omega) (show rKs l k (((q + 1 : Nat) : Int), 0) = ((rKs l k (((q : Int) + 1), 0)).1, n, 0) from Prod.ext rfl h2)
        refine ⟨by rw [a1]; congr 1; omega, by omega, by rw [List.length_cons, a3], ?_, ?_⟩
        · rw [List.drop_eq_getElem_cons h1, List.take_succ_cons, ← a4]
        · have := a5
          unfold kO at *
          rw [List.all_cons, this]
          simpa using hx
      · rw [if_neg hx] at e
        rw [rKs, rN_no (by rw [e]; decide), e] at h
        have := rKs_err (l := l) (q := q) (e := 70) (by decide) k
        simp only [Prod.mk.injEq] at h
        rw [this] at h
        simp at h
    · have e := nE_end hb (show q = l.length by omega) 1 3
      rw [rKs, rN_no (by rw [e]; decide), e] at h
      have := rKs_err (l := l) (q := q) (e := 10) (by decide) k
      simp only [Prod.mk.injEq] at h
      rw [this] at h
      simp at h
theorem rK_ok {l : List Int} (hb : Byt l) {q : Nat} {hi n : Int} {K : List Int} (hq : q ≤ l.length) (h : rK l hi (q, 0) = (K, n, 0)) :
    n = ((q + (1 + K.length) : Nat) : Int) ∧ q + (1 + K.length) ≤ l.length ∧ (K.length : Int) ≤ hi ∧ (K.length : Int) :: K = (l.drop q).take (1 + K.length) ∧ kO K = true := by
  by_cases h1 : q < l.length
  · have hbd := hb _ (List.getElem_mem h1)
    have e := nE_byte hb h1 0 hi
    by_cases hx : 0 ≤ l[q] ∧ l[q] ≤ hi
    · rw [if_pos hx] at e
      obtain ⟨g1, g2, g3⟩ := getB_byte hb h1
      rw [rK, rN_yes e, g2, g3] at h
      obtain ⟨a1, a2, a3, a4, a5⟩ := rKs_ok hb _ (q + 1) _ n (by omega) h
      have e2 : (K.length : Int) = l[q] := by omega
      refine ⟨by rw [a1]; congr 1; omega, by omega, by omega, ?_, a5⟩
      rw [e2, List.drop_eq_getElem_cons h1, Nat.add_comm 1, List.take_succ_cons, a3, ← a4]
    · rw [if_neg hx] at e
      rw [rK, rN_no (by rw [e]; decide), e] at h
      have := rKs_err (l := l) (q := q) (e := 70) (by decide) 0
      simp [rKs] at h
  · have e := nE_end hb (show q = l.length by omega) 0 hi
    rw [rK, rN_no (by rw [e]; decide), e] at h
    simp [rKs] at h
end Go.Proofs.YtjdalgejejllgaaDoor
