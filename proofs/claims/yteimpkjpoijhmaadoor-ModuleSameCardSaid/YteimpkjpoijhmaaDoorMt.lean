/-
  Modules parsed back, on lists alone: the theorems.
-/
import Derived.Test.YteimpkjpoijhmaaDoorMr
namespace Go.Proofs.YteimpkjpoijhmaaDoor
open Go.RowKit
set_option maxRecDepth 100000
set_option linter.unusedSimpArgs false
set_option linter.unusedVariables false

theorem qE_parts {d : Md} (h : qE d = 0) : d.g.length ≤ 4 ∧ d.s.length ≤ 16 ∧ -1 ≤ d.i ∧ d.i < d.s.length ∧ poM d.g = true ∧ poM d.p = true ∧ qmE d.s = 0 ∧ (qX d).length ≤ 2000 := by
  unfold qE at h
  by_cases h1 : 4 < d.g.length ∨ 16 < d.s.length ∨ d.i < -1 ∨ (d.s.length : Int) ≤ d.i
  · rw [if_pos h1] at h; cases h
  · rw [if_neg h1] at h
    by_cases h2 : poM d.g = true
    · rw [if_pos h2] at h
      by_cases h3 : poM d.p = true
      · rw [if_pos h3] at h
        by_cases h4 : qmE d.s = 0
        · rw [if_pos h4] at h
          by_cases h5 : 2000 < (qX d).length
          · rw [if_pos h5] at h; cases h
          · exact ⟨by omega, by omega, by omega, by omega, h2, h3, h4, by omega⟩
        · rw [if_neg h4] at h; exact absurd h h4
      · rw [if_neg h3] at h; cases h
    · rw [if_neg h2] at h; cases h
theorem qE_mk {d : Md} (h1 : d.g.length ≤ 4) (h2 : d.s.length ≤ 16) (h3 : -1 ≤ d.i) (h4 : d.i < d.s.length) (h5 : poM d.g = true) (h6 : poM d.p = true) (h7 : qmE d.s = 0) (h8 : (qX d).length ≤ 2000) : qE d = 0 := by
  unfold qE
  rw [if_neg (by omega), if_pos h5, if_pos h6, if_pos h7, if_neg (by omega)]
/-- A module's bytes but for the last one. -/
def qH (d : Md) : List Int := poB d.g ++ (poB d.p ++ ((d.s.length : Int) :: qmB d.s))
theorem qX_H (d : Md) : qX d = qH d ++ [if d.i < 0 then 255 else d.i] := by simp [qX, qH]
theorem qH_byt {d : Md} (h : qE d = 0) (h0 : qOk d) : Byt (qH d) := by
  obtain ⟨h1, h2, h3, h4, h5, h6, h7, h8⟩ := qE_parts h
  intro y hy
  simp only [qH, List.mem_append, List.mem_cons] at hy
  rcases hy with hy | hy | rfl | hy
  · exact poB_byt (poM_le h5) y hy
  · exact poB_byt (poM_le h6) y hy
  · omega
  · exact qmB_byt (qmE_all h7) h0.2.2 y hy
theorem byt_app {a b : List Int} (h1 : Byt a) (h2 : Byt b) : Byt (a ++ b) := fun y hy => by
  rcases List.mem_append.1 hy with hy | hy
  · exact h1 y hy
  · exact h2 y hy
/-- All but the last byte is read, whatever stands behind. -/
theorem qP_to {d : Md} (h : qE d = 0) (h0 : qOk d) (R : List Int) (hR : Byt R) (hl : (qH d ++ R).length ≤ 2000) : qP (qH d ++ R) = qPz (qH d ++ R) d.g d.p d.s.length d.s ((qH d).length : Nat) := by
  have hH := qH_byt h h0
  obtain ⟨h1, h2, h3, h4, h5, h6, h7, h8⟩ := qE_parts h
  obtain ⟨l, hll⟩ : ∃ l, qH d ++ R = l := ⟨_, rfl⟩
  have hb : Byt l := by rw [← hll]; exact byt_app hH hR
  have bg := poB_byt (poM_le h5)
  have bp := poB_byt (poM_le h6)
  have bm := qmB_byt (qmE_all h7) h0.2.2
  have bn : Byt ((d.s.length : Int) :: qmB d.s ++ R) := fun y hy => by
    rcases List.mem_append.1 hy with hy | hy
    · rcases List.mem_cons.1 hy with rfl | hy
      · omega
      · exact bm y hy
    · exact hR y hy
  have e0 : l = [] ++ (poB d.g ++ (poB d.p ++ ((d.s.length : Int) :: qmB d.s ++ R))) := by rw [← hll, qH]; simp
  have e1 : l = poB d.g ++ (poB d.p ++ ((d.s.length : Int) :: qmB d.s ++ R)) := by rw [← hll, qH]; simp
  have e2 : l = (poB d.g ++ poB d.p) ++ ((d.s.length : Int) :: (qmB d.s ++ R)) := by rw [← hll, qH]; simp
  have r1 := rdP_enc h5 h0.1 [] (poB d.p ++ ((d.s.length : Int) :: qmB d.s ++ R)) (fun y hy => (by cases hy)) (byt_app bp bn)
  rw [← e0] at r1
  have r2 := rdP_enc h6 h0.2.1 (poB d.g) ((d.s.length : Int) :: qmB d.s ++ R) bg bn
  rw [← e1] at r2
  have hlen : l.length = (poB d.g).length + (poB d.p).length + 1 + (qmB d.s).length + R.length := by rw [e2]; simp; omega
  have hHl : (qH d).length = (poB d.g).length + (poB d.p).length + 1 + (qmB d.s).length := by rw [qH]; simp; omega
  obtain ⟨g1, g2, g3⟩ := get_1 hb (p := (poB d.g).length + (poB d.p).length) (by omega)
  have hat : l[(poB d.g).length + (poB d.p).length]?.getD 0 = (d.s.length : Int) := by
    rw [e2, List.getElem?_append_right (by simp)]
    simp
  rw [hat] at g2
  have hdr : l.drop ((poB d.g).length + (poB d.p).length + 1) = qmB d.s ++ R := by
    rw [← List.drop_drop, e2, show (poB d.g).length + (poB d.p).length = (poB d.g ++ poB d.p).length by simp, List.drop_left]
    rfl
  have r3 := qms_enc (qmE_all h7) hdr
  simp only [List.length_nil, Nat.zero_add, Int.ofNat_zero] at r1
  rw [hll]
  unfold qP
  rw [if_neg (by rw [← hll]; omega), r1, qPg, if_pos rfl]
  dsimp only
  rw [if_neg (by omega), r2, qPm, if_pos rfl]
  dsimp only
  rw [if_pos g1, g2, if_neg (by omega), g3, show ((d.s.length : Int)).toNat = d.s.length by omega, r3, qPs, if_pos rfl]
  dsimp only
  rw [hHl]
theorem last_byt {d : Md} (h : qE d = 0) : 0 ≤ (if d.i < 0 then 255 else d.i) ∧ (if d.i < 0 then 255 else d.i) < 256 := by
  obtain ⟨h1, h2, h3, h4, h5, h6, h7, h8⟩ := qE_parts h
  split <;> omega
theorem one_byt {x : Int} (h : 0 ≤ x ∧ x < 256) : Byt [x] := fun y hy => by rw [List.mem_singleton.1 hy]; exact h
theorem qX_byt {d : Md} (h : qE d = 0) (h0 : qOk d) : Byt (qX d) := by
  rw [qX_H]
  exact byt_app (qH_byt h h0) (one_byt (last_byt h))
theorem at_len {a : List Int} {x : Int} {b : List Int} : (a ++ x :: b)[a.length]?.getD 0 = x := by
  rw [List.getElem?_append_right (Nat.le_refl _)]
  simp
/-- What has bytes is parsed from them. -/
theorem qP_enc {d : Md} (h : qE d = 0) (h0 : qOk d) : qP (qX d) = (d, 0) := by
  obtain ⟨h1, h2, h3, h4, h5, h6, h7, h8⟩ := qE_parts h
  have hx := last_byt h
  have hX := qX_H d
  have hb := qX_byt h h0
  rw [hX] at h8 hb ⊢
  obtain ⟨x, hxe⟩ : ∃ x, (if d.i < 0 then 255 else d.i) = x := ⟨_, rfl⟩
  rw [hxe] at hx h8 hb ⊢
  obtain ⟨g1, g2, g3⟩ := get_1 hb (p := (qH d).length) (by simp)
  rw [at_len] at g2
  rw [qP_to h h0 [x] (one_byt hx) h8, qPz, if_pos g1, g2, g3]
  have hlen : (qH d ++ [x]).length = (qH d).length + 1 := by simp
  rw [hlen]
  by_cases hi : d.i < 0
  · rw [if_pos hi] at hxe
    subst hxe
    rw [if_neg (by omega), if_pos rfl]
    obtain ⟨g, p, s, i⟩ := d
    have : i = -1 := by dsimp only at h3 hi; omega
    rw [this]
  · rw [if_neg hi] at hxe
    subst hxe
    rw [if_neg (by omega), if_neg (by omega)]
/-- With one byte more they are none's. -/
theorem qP_more {d : Md} (h : qE d = 0) (h0 : qOk d) {x : Int} (hx : 0 ≤ x ∧ x < 256) : (qP (qX d ++ [x])).2 ≠ 0 := by
  by_cases hl : 2000 < (qX d ++ [x]).length
  · rw [qP, if_pos hl]
    decide
  · have hz := last_byt h
    have hb : Byt (qX d ++ [x]) := byt_app (qX_byt h h0) (one_byt hx)
    rw [qX_H, List.append_assoc] at hl hb ⊢
    obtain ⟨u, hu⟩ : ∃ u, (if d.i < 0 then 255 else d.i) = u := ⟨_, rfl⟩
    rw [hu] at hl hb hz ⊢
    obtain ⟨g1, g2, g3⟩ := get_1 hb (p := (qH d).length) (by simp)
    rw [qP_to h h0 ([u] ++ [x]) (byt_app (one_byt hz) (one_byt hx)) (by omega), qPz, if_pos g1, g3, if_pos (by right; simp)]
    decide
/-- Without the last byte: ErrShort. -/
theorem qP_cut {d : Md} (h : qE d = 0) (h0 : qOk d) : qP ((qX d).take ((qX d).length - 1)) = (Md.zero, 10) := by
  obtain ⟨h1, h2, h3, h4, h5, h6, h7, h8⟩ := qE_parts h
  rw [qX_H] at h8 ⊢
  have e : (qH d ++ [if d.i < 0 then 255 else d.i]).take ((qH d ++ [if d.i < 0 then 255 else d.i]).length - 1) = qH d ++ [] := by simp
  rw [e, qP_to h h0 [] (fun y hy => (by cases hy)) (by simp at h8 ⊢; omega), qPz]
  have g := get_short (l := qH d ++ []) (p := ((qH d).length : Int)) (W := 1) (by omega) (by omega) (by simp) (by simp)
  rw [if_neg (by rw [g]; decide), g]
/-- What is parsed has just those bytes. -/
theorem qP_inv {l : List Int} (hb : Byt l) {d : Md} (h : qP l = (d, 0)) : qE d = 0 ∧ qX d = l ∧ qOk d := by
  unfold qP at h
  by_cases hl : 2000 < l.length
  · rw [if_pos hl] at h
    simp at h
  · rw [if_neg hl] at h
    obtain ⟨g, a, e, h1⟩ : ∃ g a e, rdP l 0 = (g, a, e) := ⟨_, _, _, rfl⟩
    rw [h1, qPg] at h
    dsimp only at h
    by_cases he : e = 0
    · subst he
      rw [if_pos rfl] at h
      by_cases hg : 4 < g.length
      · rw [if_pos hg] at h; simp at h
      · rw [if_neg hg] at h
        obtain ⟨p1, p2, i, q, hi, hq, hql, hqi, hd⟩ := rdP_inv hb h1
        obtain rfl : i = 0 := by omega
        obtain ⟨p, a2, e2, h2⟩ : ∃ g b e, rdP l a = (g, b, e) := ⟨_, _, _, rfl⟩
        rw [h2, qPm] at h
        dsimp only at h
        by_cases he2 : e2 = 0
        · subst he2
          rw [if_pos rfl] at h
          obtain ⟨p3, p4, i2, q2, hi2, hq2, hql2, hqi2, hd2⟩ := rdP_inv hb h2
          obtain rfl : i2 = q := by omega
          by_cases hg1 : getE l a2 1 = 0
          · rw [if_pos hg1] at h
            obtain ⟨b1, b2⟩ := getE_1 hg1
            rw [hq2] at b1 b2 hg1 h
            have b3 : q2 < l.length := by omega
            obtain ⟨-, v1, n1⟩ := get_1 hb b3
            rw [v1, n1] at h
            obtain ⟨x, hx⟩ : ∃ x, l[q2]?.getD 0 = x := ⟨_, rfl⟩
            have hxb : 0 ≤ x ∧ x < 256 := by
              rw [List.getElem?_eq_getElem b3] at hx
              rw [← hx]
              exact hb _ (List.getElem_mem b3)
            rw [hx] at h
            by_cases hx16 : 16 < x
            · rw [if_pos hx16] at h; simp at h
            · rw [if_neg hx16] at h
              obtain ⟨s, a3, e3, h3⟩ : ∃ s a e, qms l x.toNat ((q2 + 1 : Nat) : Int) = (s, a, e) := ⟨_, _, _, rfl⟩
              rw [h3, qPs] at h
              dsimp only at h
              by_cases he3 : e3 = 0
              · subst he3
                rw [if_pos rfl, qPz] at h
                obtain ⟨m1, m2, m3, q3, hq3, hqe, hql3, hd3⟩ := qms_inv hb (by omega) h3
                by_cases hg2 : getE l a3 1 = 0
                · rw [if_pos hg2] at h
                  obtain ⟨b4, b5⟩ := getE_1 hg2
                  rw [hq3] at b4 b5 hg2 h
                  have b6 : q3 < l.length := by omega
                  obtain ⟨-, v2, n2⟩ := get_1 hb b6
                  rw [v2, n2] at h
                  obtain ⟨y, hy⟩ : ∃ y, l[q3]?.getD 0 = y := ⟨_, rfl⟩
                  have hyb : 0 ≤ y ∧ y < 256 := by
                    rw [List.getElem?_eq_getElem b6] at hy
                    rw [← hy]
                    exact hb _ (List.getElem_mem b6)
                  rw [hy] at h
                  by_cases hlast : (x ≤ y ∧ y ≠ 255) ∨ ((q3 + 1 : Nat) : Int) < l.length
                  · rw [if_pos hlast] at h; simp at h
                  · rw [if_neg hlast] at h
                    simp only [Prod.mk.injEq, and_true] at h
                    have hsx : (s.length : Int) = x := by omega
                    have hend : l.length = q3 + 1 := by omega
                    have hd4 : l.drop q3 = [y] := by
                      rw [List.drop_eq_getElem_cons b6, List.drop_of_length_le (by omega)]
                      rw [List.getElem?_eq_getElem b6] at hy
                      rw [show l[q3] = y from hy]
                    have hd5 : l.drop q2 = x :: l.drop (q2 + 1) := by
                      rw [List.drop_eq_getElem_cons b3]
                      rw [List.getElem?_eq_getElem b3] at hx
                      rw [show l[q2] = x from hx]
                    have hdi : (if d.i < 0 then 255 else d.i) = y := by
                      rw [← h]
                      dsimp only
                      by_cases h255 : y = 255
                      · rw [if_pos h255, if_pos (by omega)]; omega
                      · rw [if_neg h255, if_neg (by omega)]
                    have hXl : qX d = l := by
                      rw [qX_H, hdi, ← h, qH]
                      dsimp only
                      rw [hsx]
                      have := hd
                      rw [List.drop_zero, hd2, hd5, hd3, hd4] at this
                      rw [this]
                      simp
                    have hdi2 : -1 ≤ d.i ∧ d.i < d.s.length := by
                      rw [← h]
                      dsimp only
                      rw [hsx]
                      by_cases h255 : y = 255
                      · rw [if_pos h255]; omega
                      · rw [if_neg h255]; omega
                    refine ⟨qE_mk ?_ ?_ hdi2.1 hdi2.2 ?_ ?_ ?_ (by rw [hXl]; omega), hXl, ?_⟩
                    · rw [← h]; dsimp only; omega
                    · rw [← h]; dsimp only; omega
                    · rw [← h]; exact p1
                    · rw [← h]; exact p3
                    · rw [← h]; exact qmE_mk m2
                    · rw [← h]; exact ⟨p2, p4, m3⟩
                · rw [if_neg hg2] at h
                  simp only [Prod.mk.injEq] at h
                  exact absurd h.2 hg2
              · rw [if_neg he3] at h
                simp only [Prod.mk.injEq] at h
                exact absurd h.2 he3
          · rw [if_neg hg1] at h
            simp only [Prod.mk.injEq] at h
            exact absurd h.2 hg1
        · rw [if_neg he2] at h
          simp only [Prod.mk.injEq] at h
          exact absurd h.2 he2
    · rw [if_neg he] at h
      simp only [Prod.mk.injEq] at h
      exact absurd h.2 he
/-- Two modules that may be with the same bytes are the same. -/
theorem qX_inj {a b : Md} (ha : qE a = 0) (hb : qE b = 0) (h0 : qOk a) (h1 : qOk b) (h : qX a = qX b) : a = b := by
  have h2 := qP_enc ha h0
  rw [h, qP_enc hb h1] at h2
  simpa using h2.symm
end Go.Proofs.YteimpkjpoijhmaaDoor
