/-
  Heads and their bytes, on lists alone: what was put is read, wherever it stands; two heads with the same bytes are the same.
-/
import Derived.Test.YteimpkjpoijhmaaDoorLk
import Derived.Test.YteimpkjpoijhmaaDoorLb
namespace Go.Proofs.YteimpkjpoijhmaaDoor
open Go.RowKit
set_option maxRecDepth 100000
set_option linter.unusedSimpArgs false
set_option linter.unusedVariables false

theorem rN_at {L : List Int} {q : Int} (P S : List Int) {n : Int} {k : Nat} {lo hi : Int} (hL : L = P ++ (digs n k ++ S)) (hq : q = (P.length : Int)) (h1 : 1 ≤ k) (h8 : k ≤ 7) (h0 : 0 ≤ n) (hn : n < p256 k) (hb : lo ≤ n ∧ n ≤ hi) : rN L (k : Int) lo hi (q, 0) = (n, q + k, 0) := by
  subst hL hq
  have hm : n ≤ 9223372036854775807 := by
    have h2 := p256_le h8
    have h3 : p256 7 = 72057594037927936 := by decide
    omega
  obtain ⟨g1, g2, g3⟩ := get_back (k := k) P S h1 (by omega) h0 hn hm
  rw [rN_yes (by rw [nE, if_pos g1, g2, if_pos hb]), g2, g3]
theorem digs_one {n : Int} (h0 : 0 ≤ n) (h : n < 256) : digs n 1 = [n] := by
  simp [digs]
  omega
theorem p1 {n : Int} (h : n < 256) : n < p256 1 := by
  have : p256 1 = 256 := by decide
  omega
theorem rN_at1 {L : List Int} {q : Int} (P S : List Int) {n : Int} {lo hi : Int} (hL : L = P ++ (n :: S)) (hq : q = (P.length : Int)) (h0 : 0 ≤ n) (hn : n < 256) (hb : lo ≤ n ∧ n ≤ hi) : rN L 1 lo hi (q, 0) = (n, q + 1, 0) :=
  rN_at (k := 1) P S (by rw [digs_one h0 hn]; exact hL) hq (by omega) (by omega) h0 (p1 hn) hb
theorem rKs_at : ∀ (K : List Int) {L : List Int} {q : Int} (P S : List Int), kO K = true → L = P ++ (K ++ S) → q = (P.length : Int) → rKs L K.length (q, 0) = (K, q + K.length, 0)
  | [], L, q, P, S, _, _, _ => by simp [rKs]
  | x :: K, L, q, P, S, hk, hL, hq => by
    have hx := kO_at hk (List.mem_cons_self)
    have ht : kO K = true := by unfold kO at *; simp only [List.all_cons, Bool.and_eq_true] at hk; exact hk.2
    have e := rN_at1 (L := L) (q := q) P (K ++ S) (n := x) (lo := 1) (hi := 3) (by simpa using hL) hq (by omega) (by omega) hx
    have e2 := rKs_at K (L := L) (q := q + 1) (P ++ [x]) S ht (by simpa using hL) (by rw [hq]; simp)
    rw [List.length_cons, rKs, e, e2]
    simp
    omega
theorem rK_at {L : List Int} {q : Int} (K P S : List Int) {hi : Int} (hk : kO K = true) (hK : K.length < 256) (hh : (K.length : Int) ≤ hi) (hL : L = P ++ (((K.length : Int) :: K) ++ S)) (hq : q = (P.length : Int)) : rK L hi (q, 0) = (K, q + (1 + K.length), 0) := by
  have e := rN_at1 (L := L) (q := q) P (K ++ S) (n := K.length) (lo := 0) (hi := hi) (by simpa using hL) hq (by omega) (by omega) ⟨by omega, hh⟩
  have e2 := rKs_at K (L := L) (q := q + 1) (P ++ [(K.length : Int)]) S hk (by simpa using hL) (by rw [hq]; simp)
  rw [rK, e]
  dsimp only
  rw [Int.toNat_natCast, e2]
  simp
  omega
theorem mL_len {m : Mh} (h : mM m = true) : (mL m).length = m.a.length + m.l.length + 11 := by
  rw [mL, if_pos h]
  simp [length_digs]
  omega
theorem rdQ_enc {m : Mh} (h : mM m = true) (l1 l3 : List Int) : rdQ (l1 ++ (mL m ++ l3)) (l1.length : Int) = (m, (l1.length : Int) + (mL m).length, 0) := by
  have hm := mM_iff.1 h
  have h2 : p256 2 = 65536 := by decide
  have h3 : p256 3 = 16777216 := by decide
  have hq : 0 ≤ fl m.q ∧ fl m.q ≤ 1 := by cases m.q <;> decide
  rw [mL_len h, mL, if_pos h]
  obtain ⟨a, l, r, qq, f, s, hh⟩ := m
  dsimp only at *
  obtain ⟨L, hL⟩ : ∃ L, l1 ++ (((a.length : Int) :: a) ++ (((l.length : Int) :: l) ++ ([r, fl qq] ++ (digs f 3 ++ (digs s 2 ++ digs hh 2)))) ++ l3) = L := ⟨_, rfl⟩
  rw [hL]
  have e1 := rK_at (L := L) (q := (l1.length : Int)) a l1 ((((l.length : Int) :: l) ++ ([r, fl qq] ++ (digs f 3 ++ (digs s 2 ++ digs hh 2)))) ++ l3) (hi := 4) hm.2.2.1 (by omega) (by omega) (by rw [← hL]; simp) rfl
  have e2 := rK_at (L := L) (q := (l1.length : Int) + (1 + a.length)) l (l1 ++ ((a.length : Int) :: a)) ([r, fl qq] ++ (digs f 3 ++ (digs s 2 ++ digs hh 2)) ++ l3) (hi := 16 - a.length) hm.2.2.2.1 (by omega) (by omega) (by rw [← hL]; simp) (by simp; omega)
  have e3 := rN_at1 (L := L) (q := (l1.length : Int) + (1 + a.length) + (1 + l.length)) (l1 ++ ((a.length : Int) :: a) ++ ((l.length : Int) :: l)) (fl qq :: (digs f 3 ++ (digs s 2 ++ digs hh 2)) ++ l3) (n := r) (lo := 1) (hi := 2) (by rw [← hL]; simp) (by simp; omega) (by omega) (by omega) (by omega)
  have e4 := rN_at1 (L := L) (q := (l1.length : Int) + (1 + a.length) + (1 + l.length) + 1) (l1 ++ ((a.length : Int) :: a) ++ ((l.length : Int) :: l) ++ [r]) (digs f 3 ++ (digs s 2 ++ digs hh 2) ++ l3) (n := fl qq) (lo := 0) (hi := 1) (by rw [← hL]; simp) (by simp; omega) (by omega) (by omega) (by omega)
  have e5 := rN_at (L := L) (q := (l1.length : Int) + (1 + a.length) + (1 + l.length) + 1 + 1) (l1 ++ ((a.length : Int) :: a) ++ ((l.length : Int) :: l) ++ [r, fl qq]) ((digs s 2 ++ digs hh 2) ++ l3) (n := f) (k := 3) (lo := 0) (hi := 1048576) (by rw [← hL]; simp) (by simp; omega) (by omega) (by omega) (by omega) (by omega) (by omega)
  have e6 := rN_at (L := L) (q := (l1.length : Int) + (1 + a.length) + (1 + l.length) + 1 + 1 + (3 : Nat)) (l1 ++ ((a.length : Int) :: a) ++ ((l.length : Int) :: l) ++ [r, fl qq] ++ digs f 3) (digs hh 2 ++ l3) (n := s) (k := 2) (lo := 0) (hi := 256) (by rw [← hL]; simp) (by simp [length_digs]; omega) (by omega) (by omega) (by omega) (by omega) (by omega)
  have e7 := rN_at (L := L) (q := (l1.length : Int) + (1 + a.length) + (1 + l.length) + 1 + 1 + (3 : Nat) + (2 : Nat)) (l1 ++ ((a.length : Int) :: a) ++ ((l.length : Int) :: l) ++ [r, fl qq] ++ digs f 3 ++ digs s 2) l3 (n := hh) (k := 2) (lo := 0) (hi := 1024) (by rw [← hL]; simp) (by simp [length_digs]; omega) (by omega) (by omega) (by omega) (by omega) (by omega)
  have e5 : rN L 3 0 1048576 ((l1.length : Int) + (1 + a.length) + (1 + l.length) + 1 + 1, 0) = _ := e5
  have e6 : rN L 2 0 256 ((l1.length : Int) + (1 + a.length) + (1 + l.length) + 1 + 1 + (3 : Nat), 0) = _ := e6
  have e7 : rN L 2 0 1024 ((l1.length : Int) + (1 + a.length) + (1 + l.length) + 1 + 1 + (3 : Nat) + (2 : Nat), 0) = _ := e7
  have hfl : (fl qq == 1) = qq := by cases qq <;> rfl
  simp only [rdQ, e1, e2, fs7, rF, e3, e4, e5, e6, e7, mk7]
  simp [hfl]
  omega
theorem mL_inj {m k : Mh} (hm : mM m = true) (hk : mM k = true) (h : mL m = mL k) : m = k := by
  have e1 := rdQ_enc hm [] []
  have e2 := rdQ_enc hk [] []
  rw [h] at e1
  rw [e1] at e2
  exact (Prod.mk.inj e2).1
end Go.Proofs.YteimpkjpoijhmaaDoor
