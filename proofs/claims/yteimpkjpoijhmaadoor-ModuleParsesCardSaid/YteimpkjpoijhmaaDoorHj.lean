/-
  Heads and their bytes, on lists alone, the other way: what was read has just those bytes; without its last byte none is read.
-/
import Derived.Test.YteimpkjpoijhmaaDoorHg
import Derived.Test.YteimpkjpoijhmaaDoorHe
namespace Go.Proofs.YteimpkjpoijhmaaDoor
open Go.RowKit
set_option maxRecDepth 100000
set_option linter.unusedSimpArgs false
set_option linter.unusedVariables false

theorem rN_e {l : List Int} {W lo hi q e : Int} (h : (rN l W lo hi (q, e)).2.2 = 0) : e = 0 := by
  by_cases he : e = 0
  · exact he
  · rw [rN_err he] at h; exact h
theorem rK_e {l : List Int} {hi q e : Int} (h : (rK l hi (q, e)).2.2 = 0) : e = 0 := by
  by_cases he : e = 0
  · exact he
  · rw [rK_err he] at h; exact h
theorem rN_inv {l : List Int} (hb : Byt l) {q W : Nat} {lo hi : Int} (h1 : 1 ≤ W) (h7 : W ≤ 7) (hq : q ≤ l.length) (h : (rN l (W : Int) lo hi ((q : Int), 0)).2.2 = 0) :
    ∃ n, rN l (W : Int) lo hi ((q : Int), 0) = (n, ((q + W : Nat) : Int), 0) ∧ q + W ≤ l.length ∧ (lo ≤ n ∧ n ≤ hi) ∧ digs n W = (l.drop q).take W := by
  by_cases hl : q + W ≤ l.length
  · obtain ⟨g1, g2, g3⟩ := getB_long hb (q := (q : Int)) (W := (W : Int)) (by omega) (by omega) (by omega) (by omega)
    by_cases hx : lo ≤ getV l q W ∧ getV l q W ≤ hi
    · have e : nE l q W lo hi = 0 := by rw [nE, if_pos g1, if_pos hx]
      refine ⟨getV l q W, by rw [rN_yes e, g3]; rfl, hl, hx, ?_⟩
      rw [g2, Int.toNat_natCast, Int.toNat_natCast]
      have hlen : ((l.drop q).take W).length = W := by simp; omega
      have := digs_num (byt_take (byt_drop hb q) W)
      rwa [hlen] at this
    · have e : nE l q W lo hi = 70 := by rw [nE, if_pos g1, if_neg hx]
      rw [rN_no (by rw [e]; decide), e] at h
      simp at h
  · have g := getB_short hb (q := (q : Int)) (W := (W : Int)) (by omega) (by omega) (by omega) (by omega) (by omega)
    have e : nE l q W lo hi = 10 := by rw [nE, if_neg (by rw [g]; decide), g]
    rw [rN_no (by rw [e]; decide), e] at h
    simp at h
theorem rK_inv {l : List Int} (hb : Byt l) {q : Nat} {hi : Int} (hq : q ≤ l.length) (h : (rK l hi ((q : Int), 0)).2.2 = 0) :
    ∃ K, rK l hi ((q : Int), 0) = (K, ((q + (1 + K.length) : Nat) : Int), 0) ∧ q + (1 + K.length) ≤ l.length ∧ (K.length : Int) ≤ hi ∧ (K.length : Int) :: K = (l.drop q).take (1 + K.length) ∧ kO K = true := by
  obtain ⟨K, n, e, hk⟩ : ∃ K n e, rK l hi ((q : Int), 0) = (K, n, e) := ⟨_, _, _, rfl⟩
  rw [hk] at h
  obtain rfl : e = 0 := h
  obtain ⟨h1, h2, h3, h4, h5⟩ := rK_ok hb hq hk
  subst h1
  exact ⟨K, hk, h2, h3, h4, h5⟩
theorem take_app {l X Y : List Int} {q a b : Nat} (h1 : X = (l.drop q).take a) (h2 : Y = (l.drop (q + a)).take b) : X ++ Y = (l.drop q).take (a + b) := by
  rw [h1, h2, List.take_add, List.drop_drop]
theorem rdQ_ok {l : List Int} (hb : Byt l) {p : Int} {m : Mh} {n : Int} (h : rdQ l p = (m, n, 0)) : ∃ q : Nat, p = q ∧ n = ((q + (mL m).length : Nat) : Int) ∧ q + (mL m).length ≤ l.length ∧ mM m = true ∧ mL m = (l.drop q).take (mL m).length := by
  by_cases hp : p < 0 ∨ (l.length : Int) < p
  · rw [rdQ_arg hp] at h
    simp at h
  · obtain ⟨q, rfl⟩ : ∃ q : Nat, p = q := ⟨p.toNat, by omega⟩
    obtain ⟨K1, q1, e1, h1⟩ : ∃ K q' e, rK l 4 ((q : Int), 0) = (K, q', e) := ⟨_, _, _, rfl⟩
    obtain ⟨K2, q2, e2, h2⟩ : ∃ K q' e, rK l (16 - K1.length) (q1, e1) = (K, q', e) := ⟨_, _, _, rfl⟩
    obtain ⟨v3, q3, e3, h3⟩ : ∃ v q' e, rN l 1 1 2 (q2, e2) = (v, q', e) := ⟨_, _, _, rfl⟩
    obtain ⟨v4, q4, e4, h4⟩ : ∃ v q' e, rN l 1 0 1 (q3, e3) = (v, q', e) := ⟨_, _, _, rfl⟩
    obtain ⟨v5, q5, e5, h5⟩ : ∃ v q' e, rN l 3 0 1048576 (q4, e4) = (v, q', e) := ⟨_, _, _, rfl⟩
    obtain ⟨v6, q6, e6, h6⟩ : ∃ v q' e, rN l 2 0 256 (q5, e5) = (v, q', e) := ⟨_, _, _, rfl⟩
    obtain ⟨v7, q7, e7, h7⟩ : ∃ v q' e, rN l 2 0 1024 (q6, e6) = (v, q', e) := ⟨_, _, _, rfl⟩
    have hr : rdQ l q = if e7 = 0 then (⟨K1, K2, v3, v4 == 1, v5, v6, v7⟩, q7, 0) else (Mh.zero, 0, e7) := by
      simp only [rdQ, h1, h2, fs7, rF, h3, h4, h5, h6, h7, mk7]
      rfl
    rw [hr] at h
    have he7 : e7 = 0 := by
      by_cases he : e7 = 0
      · exact he
      · rw [if_neg he] at h
        simp only [Prod.mk.injEq] at h
        exact h.2.2
    rw [if_pos he7] at h
    simp only [Prod.mk.injEq] at h
    obtain ⟨hm, hn, -⟩ := h
    obtain rfl : e6 = 0 := rN_e (by rw [h7]; exact he7)
    obtain rfl : e5 = 0 := rN_e (by rw [h6])
    obtain rfl : e4 = 0 := rN_e (by rw [h5])
    obtain rfl : e3 = 0 := rN_e (by rw [h4])
    obtain rfl : e2 = 0 := rN_e (by rw [h3])
    obtain rfl : e1 = 0 := rK_e (by rw [h2])
    obtain ⟨L1, g1, l1, b1, t1, k1⟩ := rK_inv hb (q := q) (by omega) (by rw [h1])
    rw [h1] at g1
    obtain ⟨rfl, rfl, -⟩ := by simpa only [Prod.mk.injEq] using g1
    obtain ⟨L2, g2, l2, b2, t2, k2⟩ := rK_inv hb l1 (by rw [h2])
    rw [h2] at g2
    obtain ⟨rfl, rfl, -⟩ := by simpa only [Prod.mk.injEq] using g2
    obtain ⟨n3, g3, l3, b3, t3⟩ := rN_inv hb (W := 1) (lo := 1) (hi := 2) (by omega) (by omega) l2 (by rw [show ((1 : Nat) : Int) = 1 from rfl, h3])
    rw [show ((1 : Nat) : Int) = 1 from rfl, h3] at g3
    obtain ⟨rfl, rfl, -⟩ := by simpa only [Prod.mk.injEq] using g3
    obtain ⟨n4, g4, l4, b4, t4⟩ := rN_inv hb (W := 1) (lo := 0) (hi := 1) (by omega) (by omega) l3 (by rw [show ((1 : Nat) : Int) = 1 from rfl, h4])
    rw [show ((1 : Nat) : Int) = 1 from rfl, h4] at g4
    obtain ⟨rfl, rfl, -⟩ := by simpa only [Prod.mk.injEq] using g4
    obtain ⟨n5, g5, l5, b5, t5⟩ := rN_inv hb (W := 3) (lo := 0) (hi := 1048576) (by omega) (by omega) l4 (by rw [show ((3 : Nat) : Int) = 3 from rfl, h5])
    rw [show ((3 : Nat) : Int) = 3 from rfl, h5] at g5
    obtain ⟨rfl, rfl, -⟩ := by simpa only [Prod.mk.injEq] using g5
    obtain ⟨n6, g6, l6, b6, t6⟩ := rN_inv hb (W := 2) (lo := 0) (hi := 256) (by omega) (by omega) l5 (by rw [show ((2 : Nat) : Int) = 2 from rfl, h6])
    rw [show ((2 : Nat) : Int) = 2 from rfl, h6] at g6
    obtain ⟨rfl, rfl, -⟩ := by simpa only [Prod.mk.injEq] using g6
    obtain ⟨n7, g7, l7, b7, t7⟩ := rN_inv hb (W := 2) (lo := 0) (hi := 1024) (by omega) (by omega) l6 (by rw [show ((2 : Nat) : Int) = 2 from rfl, h7, he7])
    rw [show ((2 : Nat) : Int) = 2 from rfl, h7] at g7
    obtain ⟨rfl, rfl, -⟩ := by simpa only [Prod.mk.injEq] using g7
    have hM : mM m = true := by
      rw [← hm, mM_iff]
      dsimp only
      exact ⟨by omega, by omega, k1, k2, b3, b5, b6, b7⟩
    have hfl : fl (v4 == 1) = v4 := by
      have : v4 = 0 ∨ v4 = 1 := by omega
      rcases this with rfl | rfl <;> rfl
    have hLen := mL_len hM
    have hL : mL m = (l.drop q).take (mL m).length := by
      have hmL : mL m = ((K1.length : Int) :: K1) ++ (((K2.length : Int) :: K2) ++ (digs v3 1 ++ (digs v4 1 ++ (digs v5 3 ++ (digs v6 2 ++ digs v7 2))))) := by
        rw [mL, if_pos hM, ← hm]
        dsimp only
        rw [hfl, digs_one (by omega) (by omega), digs_one (by omega) (by omega)]
        simp
      rw [hLen, hmL, ← hm]
      dsimp only
      have a7 := t7
      have a6 := take_app t6 a7
      have a5 := take_app t5 a6
      have a4 := take_app t4 a5
      have a3 := take_app t3 a4
      have a2 := take_app t2 a3
      have a1 := take_app t1 a2
      rw [a1]
      congr 1
      omega
    refine ⟨q, rfl, ?_, ?_, hM, hL⟩
    · rw [← hn, hLen, ← hm]
      dsimp only
      congr 1
      omega
    · rw [hLen, ← hm]
      dsimp only
      omega
theorem rdQ_cut {m : Mh} (h : mM m = true) : rdQ ((mL m).take ((mL m).length - 1)) 0 = (Mh.zero, 0, 10) := by
  have hm := mM_iff.1 h
  have h2 : p256 2 = 65536 := by decide
  have h3 : p256 3 = 16777216 := by decide
  have hq : 0 ≤ fl m.q ∧ fl m.q ≤ 1 := by cases m.q <;> decide
  have hbb := byt_digs m.h 2
  rw [mL_len h, mL, if_pos h]
  obtain ⟨a, l, r, qq, f, s, hh⟩ := m
  dsimp only at *
  obtain ⟨L, hL⟩ : ∃ L, ((a.length : Int) :: a) ++ (((l.length : Int) :: l) ++ ([r, fl qq] ++ (digs f 3 ++ (digs s 2 ++ (digs hh 2).take 1)))) = L := ⟨_, rfl⟩
  have hcut : List.take (a.length + l.length + 11 - 1) (((a.length : Int) :: a) ++ (((l.length : Int) :: l) ++ ([r, fl qq] ++ (digs f 3 ++ (digs s 2 ++ digs hh 2))))) = L := by
    rw [← hL]
    have e : ((a.length : Int) :: a) ++ (((l.length : Int) :: l) ++ ([r, fl qq] ++ (digs f 3 ++ (digs s 2 ++ digs hh 2)))) = (((a.length : Int) :: a) ++ (((l.length : Int) :: l) ++ ([r, fl qq] ++ (digs f 3 ++ digs s 2)))) ++ digs hh 2 := by simp
    have hX : (((a.length : Int) :: a) ++ (((l.length : Int) :: l) ++ ([r, fl qq] ++ (digs f 3 ++ digs s 2)))).length = a.length + l.length + 9 := by simp [length_digs]; omega
    rw [e, List.take_append, List.take_of_length_le (by rw [hX]; omega), hX, show a.length + l.length + 11 - 1 - (a.length + l.length + 9) = 1 by omega]
    simp
  rw [hcut]
  have hLl : L.length = a.length + l.length + 10 := by rw [← hL]; simp [length_digs]; omega
  have hbL : Byt L := by
    rw [← hL]
    intro z hz
    simp only [List.mem_append, List.mem_cons, List.not_mem_nil, or_false] at hz
    rcases hz with (rfl | hz) | (rfl | hz) | (rfl | rfl) | hz | hz | hz
    · omega
    · have := kO_at hm.2.2.1 hz; omega
    · omega
    · have := kO_at hm.2.2.2.1 hz; omega
    · omega
    · omega
    · exact byt_digs _ _ z hz
    · exact byt_digs _ _ z hz
    · exact hbb z (List.mem_of_mem_take hz)
  have e1 := rK_at (L := L) (q := (0 : Int)) a [] ((((l.length : Int) :: l) ++ ([r, fl qq] ++ (digs f 3 ++ (digs s 2 ++ (digs hh 2).take 1))))) (hi := 4) hm.2.2.1 (by omega) (by omega) (by rw [← hL] <;> simp) rfl
  have e2 := rK_at (L := L) (q := (0 : Int) + (1 + a.length)) l ((a.length : Int) :: a) ([r, fl qq] ++ (digs f 3 ++ (digs s 2 ++ (digs hh 2).take 1))) (hi := 16 - a.length) hm.2.2.2.1 (by omega) (by omega) (by rw [← hL] <;> simp) (by simp; omega)
  have e3 := rN_at1 (L := L) (q := (0 : Int) + (1 + a.length) + (1 + l.length)) (((a.length : Int) :: a) ++ ((l.length : Int) :: l)) (fl qq :: (digs f 3 ++ (digs s 2 ++ (digs hh 2).take 1))) (n := r) (lo := 1) (hi := 2) (by rw [← hL] <;> simp) (by simp; omega) (by omega) (by omega) (by omega)
  have e4 := rN_at1 (L := L) (q := (0 : Int) + (1 + a.length) + (1 + l.length) + 1) (((a.length : Int) :: a) ++ ((l.length : Int) :: l) ++ [r]) (digs f 3 ++ (digs s 2 ++ (digs hh 2).take 1)) (n := fl qq) (lo := 0) (hi := 1) (by rw [← hL] <;> simp) (by simp; omega) (by omega) (by omega) (by omega)
  have e5 := rN_at (L := L) (q := (0 : Int) + (1 + a.length) + (1 + l.length) + 1 + 1) (((a.length : Int) :: a) ++ ((l.length : Int) :: l) ++ [r, fl qq]) (digs s 2 ++ (digs hh 2).take 1) (n := f) (k := 3) (lo := 0) (hi := 1048576) (by rw [← hL] <;> simp) (by simp; omega) (by omega) (by omega) (by omega) (by omega) (by omega)
  have e6 := rN_at (L := L) (q := (0 : Int) + (1 + a.length) + (1 + l.length) + 1 + 1 + (3 : Nat)) (((a.length : Int) :: a) ++ ((l.length : Int) :: l) ++ [r, fl qq] ++ digs f 3) ((digs hh 2).take 1) (n := s) (k := 2) (lo := 0) (hi := 256) (by rw [← hL] <;> simp) (by simp [length_digs]; omega) (by omega) (by omega) (by omega) (by omega) (by omega)
  have e5 : rN L 3 0 1048576 ((0 : Int) + (1 + a.length) + (1 + l.length) + 1 + 1, 0) = _ := e5
  have e6 : rN L 2 0 256 ((0 : Int) + (1 + a.length) + (1 + l.length) + 1 + 1 + (3 : Nat), 0) = _ := e6
  have e7 : rN L 2 0 1024 ((0 : Int) + (1 + a.length) + (1 + l.length) + 1 + 1 + (3 : Nat) + (2 : Nat), 0) = (0, (0 : Int) + (1 + a.length) + (1 + l.length) + 1 + 1 + (3 : Nat) + (2 : Nat), 10) := by
    have g := getB_short hbL (q := (0 : Int) + (1 + a.length) + (1 + l.length) + 1 + 1 + (3 : Nat) + (2 : Nat)) (W := 2) (by omega) (by omega) (by omega) (by omega) (by omega)
    have e : nE L ((0 : Int) + (1 + a.length) + (1 + l.length) + 1 + 1 + (3 : Nat) + (2 : Nat)) 2 0 1024 = 10 := by rw [nE, if_neg (by rw [g]; decide), g]
    rw [rN_no (by rw [e]; decide), e]
  have e6 : rN L 2 0 256 ((0 : Int) + (1 + a.length) + (1 + l.length) + 1 + 1 + (3 : Nat), 0) = (s, (0 : Int) + (1 + a.length) + (1 + l.length) + 1 + 1 + (3 : Nat) + (2 : Nat), 0) := e6
  simp only [rdQ, e1, e2, fs7, rF, e3, e4, e5, e6, e7, mk7]
  simp
theorem tl7_cut {m : Mh} (h : mM m = true) : tl7 ((mL m).take ((mL m).length - 1)) 10 = true := by
  rw [tl7, rdQ_cut h]
  decide
end Go.Proofs.YteimpkjpoijhmaaDoor
