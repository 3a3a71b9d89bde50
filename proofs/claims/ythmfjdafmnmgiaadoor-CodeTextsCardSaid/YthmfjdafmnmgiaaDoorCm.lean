/-
  Code and its bytes, by definition: each is read from its bytes, wherever they stand; what is read has just those bytes; without the last byte nothing is read. No program is named here.
-/
import Derived.Test.YthmfjdafmnmgiaaDoorCrb
import Derived.Test.YthmfjdafmnmgiaaDoorCrr
namespace Go.Proofs.YthmfjdafmnmgiaaDoor
open Go.RowKit

theorem at_drop {l : List Int} {p i : Nat} : l[p + i]? = (l.drop p)[i]? := (List.getElem?_drop).symm
theorem len_drop {l Y : List Int} {p : Nat} {Z : List Int} (h : l.drop p = Z ++ Y) (hz : Z ≠ []) : p < l.length ∧ l.length = p + Z.length + Y.length := by
  have h1 := congrArg List.length h
  rw [List.length_drop, List.length_append] at h1
  have h2 : 0 < Z.length := List.length_pos_iff.2 hz
  omega
theorem opr_ne (x : Ins) : opr x ≠ [] := by unfold opr; exact List.cons_ne_nil _ _
theorem opLo_nonneg (n : Int) : 0 ≤ opLo n ∧ opLo n ≤ 1 := by unfold opLo; split <;> omega
/-- What an instruction that may be is. -/
theorem inM_parts {x : Ins} (h : inM x = true) : opLo x.1 ≤ x.2.1 ∧ x.2.1 ≤ opHi x.1 ∧ x.2.2 = 0 := by
  have h' : opM x.1 x.2.1 x.2.2 = true := h
  simp only [opM, Bool.and_eq_true, decide_eq_true_eq, beq_iff_eq] at h'
  exact ⟨h'.1.1, h'.1.2, h'.2⟩
theorem rd1_enc {l Y : List Int} {p : Nat} {x : Ins} (h : inM x = true) (hd : l.drop p = opr x ++ Y) : rd1 l p = (0, x, p + (opr x).length) := by
  obtain ⟨g1, g2, g3⟩ := opM_bd h
  obtain ⟨q1, q2, q3⟩ := inM_parts h
  obtain ⟨hp, hl⟩ := len_drop hd (opr_ne x)
  obtain ⟨n, a, b⟩ := x
  simp only at g1 g2 g3 q1 q2 q3
  subst q3
  have h' : opM n a 0 = true := h
  have e0 : l[p]? = some n := by have := at_drop (l := l) (p := p) (i := 0); rw [hd] at this; simpa [opr] using this
  cases hw : wdB n with
  | true =>
    have ho : opr (n, a, 0) = [n, a % 256, a / 256] := by simp [opr, hw]
    rw [ho] at hd hl
    have e1 : l[p + 1]? = some (a % 256) := by rw [at_drop, hd]; rfl
    have e2 : l[p + 2]? = some (a / 256) := by rw [at_drop, hd]; rfl
    have e3 : a % 256 + 256 * (a / 256) = a := by omega
    rw [rd1_wide (v := true) (by rw [e0]; exact g3) (by rw [e0]; exact hw) (by rw [hl]; simp) (by rw [e0, e1, e2]; simp only [Option.getD_some]; rw [e3]; exact h'), if_pos rfl, e0, e1, e2, ho]
    simp only [Option.getD_some]
    rw [e3]
    rfl
  | false =>
    have ho : opr (n, a, 0) = [n] := by simp [opr, hw]
    have hh : ¬ 0 < opHi n := by simpa [wdB] using hw
    have h0 := opLo_nonneg n
    obtain rfl : a = 0 := by omega
    rw [rd1_slim (v := true) hp (by rw [e0]; exact g3) (by rw [e0]; exact hw) (by rw [e0]; exact h'), if_pos rfl, e0, ho]
    rfl
theorem rdS_enc {l Y : List Int} {L : List Ins} (h : ∀ x ∈ L, inM x = true) : ∀ {p : Nat}, l.drop p = L.flatMap opr ++ Y → rdS l L.length p = (0, L, p + (L.flatMap opr).length) := by
  induction L with
  | nil => intro p _; rfl
  | cons x L ih =>
    intro p hd
    rw [List.flatMap_cons, List.append_assoc] at hd
    have h1 := rd1_enc (h x (by simp)) hd
    have hd2 : l.drop (p + (opr x).length) = L.flatMap opr ++ Y := by rw [← List.drop_drop, hd, List.drop_left]
    rw [List.length_cons, rdS_yes h1, ih (fun y hy => h y (by simp [hy])) hd2, apC, if_pos rfl, List.flatMap_cons, List.length_append, Nat.add_assoc]
    rfl
theorem codM_parts {L : List Ins} (h : codM L = true) : 1 ≤ L.length ∧ L.length ≤ 200 ∧ ∀ x ∈ L, inM x = true := by
  simp only [codM, Bool.and_eq_true, decide_eq_true_eq] at h
  exact ⟨h.1.1, h.1.2, List.all_eq_true.1 h.2⟩
/-- What has bytes is read from them, wherever they stand. -/
theorem rdC_enc {L : List Ins} (h : codM L = true) (X Y : List Int) : rdC (X ++ codB L ++ Y) X.length = (0, L, X.length + (codB L).length) := by
  obtain ⟨h1, h2, h3⟩ := codM_parts h
  have hd : (X ++ codB L ++ Y).drop X.length = codB L ++ Y := by rw [List.append_assoc, List.drop_left]
  have hd1 : (X ++ codB L ++ Y).drop (X.length + 1) = L.flatMap opr ++ Y := by rw [← List.drop_drop, hd, codB]; rfl
  have hlt : X.length < (X ++ codB L ++ Y).length := by simp [codB]
  have he : (X ++ codB L ++ Y)[X.length]?.getD 0 = (L.length : Nat) := by
    have := at_drop (l := X ++ codB L ++ Y) (p := X.length) (i := 0)
    rw [hd] at this
    rw [show X.length = X.length + 0 from rfl, this, codB]
    rfl
  have hq : X.length + 1 + (L.flatMap opr).length = X.length + (codB L).length := by rw [codB, List.length_cons]; omega
  rw [rdC_yes hlt he ⟨h1, h2⟩, rdS_enc h3 hd1, hq]
/-- What is read, of one instruction. -/
theorem rd1_inv {l : List Int} (hb : Byt l) {p q : Nat} {x : Ins} (h : rd1 l p = (0, x, q)) : inM x = true ∧ InOk x ∧ q = p + (opr x).length ∧ q ≤ l.length ∧ l.drop p = opr x ++ l.drop q := by
  have hbyte : ∀ i : Nat, (0 : Int) ≤ l[i]?.getD 0 ∧ (l[i]?.getD 0 : Int) < 256 := fun i => by
    by_cases hi : i < l.length
    · rw [List.getElem?_eq_getElem hi]; exact hb _ (List.getElem_mem hi)
    · rw [List.getElem?_eq_none (by omega)]; exact ⟨by decide, by decide⟩
  have hcons : ∀ i : Nat, i < l.length → l.drop i = (l[i]?.getD 0 : Int) :: l.drop (i + 1) := fun i hi => by
    rw [List.drop_eq_getElem_cons hi, List.getElem?_eq_getElem hi]; rfl
  have b0 := hbyte p
  have b1 := hbyte (p + 1)
  have b2 := hbyte (p + 2)
  unfold rd1 at h
  by_cases h1 : l.length ≤ p
  · rw [if_pos h1] at h; simp at h
  · rw [if_neg h1] at h
    simp only at h
    have c0 := hcons p (by omega)
    generalize l[p]?.getD 0 = n at *
    by_cases h2 : n < 33
    · rw [if_neg (by omega)] at h
      cases hw : wdB n with
      | true =>
        rw [if_pos hw] at h
        by_cases h3 : l.length < p + 3
        · rw [if_pos h3] at h; simp at h
        · rw [if_neg h3] at h
          have c1 := hcons (p + 1) (by omega)
          have c2 := hcons (p + 2) (by omega)
          generalize l[p + 1]?.getD 0 = y at *
          generalize l[p + 2]?.getD 0 = z at *
          by_cases h4 : opM n (y + 256 * z) 0 = true
          · rw [if_pos h4] at h
            simp only [Prod.mk.injEq, true_and] at h
            obtain ⟨rfl, rfl⟩ := h
            have e1 : (y + 256 * z) % 256 = y := by omega
            have e2 : (y + 256 * z) / 256 = z := by omega
            have ho : opr (n, y + 256 * z, 0) = [n, y, z] := by simp [opr, hw, e1, e2]
            refine ⟨h4, ?_, by rw [ho]; rfl, by omega, ?_⟩
            · unfold InOk; simp only; omega
            · rw [ho, c0, c1, c2]; rfl
          · rw [if_neg h4] at h; simp at h
      | false =>
        rw [if_neg (by rw [hw]; decide)] at h
        by_cases h4 : opM n 0 0 = true
        · rw [if_pos h4] at h
          simp only [Prod.mk.injEq, true_and] at h
          obtain ⟨rfl, rfl⟩ := h
          have ho : opr (n, 0, 0) = [n] := by simp [opr, hw]
          refine ⟨h4, ?_, by rw [ho]; rfl, by omega, ?_⟩
          · unfold InOk; simp only; omega
          · rw [ho, c0]; rfl
        · rw [if_neg h4] at h; simp at h
    · rw [if_pos (by omega)] at h; simp at h
theorem rdS_inv {l : List Int} (hb : Byt l) : ∀ {k p q : Nat} {L : List Ins}, p ≤ l.length → rdS l k p = (0, L, q) → L.length = k ∧ (∀ x ∈ L, inM x = true) ∧ (∀ x ∈ L, InOk x) ∧ q = p + (L.flatMap opr).length ∧ q ≤ l.length ∧ l.drop p = L.flatMap opr ++ l.drop q := by
  intro k
  induction k with
  | zero =>
    intro p q L hp h
    simp only [rdS, Prod.mk.injEq, true_and] at h
    obtain ⟨rfl, rfl⟩ := h
    exact ⟨rfl, fun x hx => (by cases hx), fun x hx => (by cases hx), rfl, hp, rfl⟩
  | succ k ih =>
    intro p q L hp h
    rw [rdS] at h
    by_cases h1 : (rd1 l p).1 = 0
    · rw [if_pos h1] at h
      obtain ⟨x, q1, hr⟩ : ∃ x q1, rd1 l p = (0, x, q1) := ⟨(rd1 l p).2.1, (rd1 l p).2.2, by rw [← h1]⟩
      rw [hr] at h
      obtain ⟨m1, m2, m3, m4, m5⟩ := rd1_inv hb hr
      simp only at h
      unfold apC at h
      by_cases h2 : (rdS l k q1).1 = 0
      · rw [if_pos h2] at h
        obtain ⟨M, q2, hs⟩ : ∃ M q2, rdS l k q1 = (0, M, q2) := ⟨(rdS l k q1).2.1, (rdS l k q1).2.2, by rw [← h2]⟩
        rw [hs] at h
        simp only [Prod.mk.injEq, true_and] at h
        obtain ⟨rfl, rfl⟩ := h
        obtain ⟨n1, n2, n3, n4, n5, n6⟩ := ih m4 hs
        refine ⟨by rw [List.length_append, n1]; simp; omega, ?_, ?_, ?_, n5, ?_⟩
        · intro y hy
          rcases List.mem_append.1 hy with hy | hy
          · rw [List.mem_singleton.1 hy]; exact m1
          · exact n2 y hy
        · intro y hy
          rcases List.mem_append.1 hy with hy | hy
          · rw [List.mem_singleton.1 hy]; exact m2
          · exact n3 y hy
        · rw [n4, m3, List.flatMap_append, List.length_append]; simp; omega
        · rw [m5, n6, List.flatMap_append, List.append_assoc]; simp
      · rw [if_neg h2] at h
        exact absurd (congrArg Prod.fst h) h2
    · rw [if_neg h1] at h
      exact absurd (congrArg Prod.fst h) h1
theorem codM_mk {L : List Ins} (h1 : 1 ≤ L.length) (h2 : L.length ≤ 200) (h3 : ∀ x ∈ L, inM x = true) : codM L = true := by
  rw [codM, decide_eq_true h1, decide_eq_true h2, List.all_eq_true.2 h3]; rfl
/-- What is read has just those bytes. -/
theorem rdC_inv {l : List Int} (hb : Byt l) {p : Int} {L : List Ins} {q : Nat} (h : rdC l p = (0, L, q)) : codM L = true ∧ (∀ x ∈ L, InOk x) ∧ 0 ≤ p ∧ p ≤ l.length ∧ q ≤ l.length ∧ q = p.toNat + (codB L).length ∧ l.drop p.toNat = codB L ++ l.drop q := by
  unfold rdC at h
  by_cases h1 : p < 0 ∨ l.length < p
  · rw [if_pos h1] at h; simp at h
  · rw [if_neg h1] at h
    by_cases h2 : p = l.length
    · rw [if_pos h2] at h; simp at h
    · rw [if_neg h2] at h
      simp only at h
      have hlt : p.toNat < l.length := by omega
      have c0 : l.drop p.toNat = l[p.toNat]?.getD 0 :: l.drop (p.toNat + 1) := by rw [List.drop_eq_getElem_cons hlt, List.getElem?_eq_getElem hlt]; rfl
      generalize l[p.toNat]?.getD 0 = m at *
      by_cases h3 : m < 1 ∨ 200 < m
      · rw [if_pos h3] at h; simp at h
      · rw [if_neg h3] at h
        obtain ⟨n1, n2, n3, n4, n5, n6⟩ := rdS_inv hb (by omega) h
        have hm : (L.length : Int) = m := by omega
        refine ⟨codM_mk (by omega) (by omega) n2, n3, by omega, by omega, n5, by rw [n4, codB, List.length_cons]; omega, ?_⟩
        rw [c0, n6, codB, hm]
        rfl
theorem len_drop2 {l Z : List Int} {p : Nat} (h : l.drop p = Z) (hp : p ≤ l.length) : l.length = p + Z.length := by
  have h1 := congrArg List.length h
  rw [List.length_drop] at h1
  omega
theorem rd1_cut {l : List Int} {p : Nat} {x : Ins} (h : inM x = true) (hp : p ≤ l.length) (hd : l.drop p = (opr x).dropLast) : (rd1 l p).1 = 10 := by
  obtain ⟨g1, g2, g3⟩ := opM_bd h
  cases hw : wdB x.1 with
  | true =>
    have ho : opr x = [x.1, x.2.1 % 256, x.2.1 / 256] := by rw [opr, hw, if_pos rfl]
    rw [ho] at hd
    replace hd : l.drop p = [x.1, x.2.1 % 256] := hd
    have hl : l.length = p + 2 := len_drop2 hd hp
    have e0 : l[p]? = some x.1 := by have := at_drop (l := l) (p := p) (i := 0); rw [hd] at this; simpa using this
    rw [rd1_few (by omega) (by rw [e0]; exact g3) (by rw [e0]; exact hw) (by omega)]
  | false =>
    have ho : opr x = [x.1] := by rw [opr, hw, if_neg (by decide)]
    rw [ho] at hd
    replace hd : l.drop p = [] := hd
    have hl : l.length = p + 0 := len_drop2 hd hp
    rw [rd1_short (by omega)]
theorem rdS_cut {l : List Int} : ∀ {L : List Ins} {p : Nat}, L ≠ [] → (∀ x ∈ L, inM x = true) → p ≤ l.length → l.drop p = (L.flatMap opr).dropLast → rdS l L.length p = (10, [], 0)
  | [], p, h, _, _, _ => absurd rfl h
  | [x], p, _, h, hp, hd => by
    rw [List.flatMap_cons, List.flatMap_nil, List.append_nil] at hd
    exact rdS_no (rd1_cut (h x (by simp)) hp hd) (by decide)
  | x :: y :: L, p, _, h, hp, hd => by
    have hne : (y :: L).flatMap opr ≠ [] := by
      rw [List.flatMap_cons]
      intro e
      exact opr_ne y (List.append_eq_nil_iff.1 e).1
    rw [List.flatMap_cons, List.dropLast_append_of_ne_nil hne] at hd
    have h1 := rd1_enc (h x (by simp)) hd
    have hd2 : l.drop (p + (opr x).length) = ((y :: L).flatMap opr).dropLast := by rw [← List.drop_drop, hd, List.drop_left]
    have hp2 : p + (opr x).length ≤ l.length := by have := (len_drop hd (opr_ne x)).2; omega
    rw [List.length_cons, rdS_yes h1, rdS_cut (by simp) (fun z hz => h z (by simp [hz])) hp2 hd2]
    rfl
/-- Without the last byte nothing is read. -/
theorem rdC_cut {L : List Ins} (h : codM L = true) : rdC ((codB L).dropLast) 0 = (10, [], 0) := by
  obtain ⟨h1, h2, h3⟩ := codM_parts h
  have hL : L ≠ [] := fun e => by rw [e] at h1; simp at h1
  have hne : L.flatMap opr ≠ [] := by
    obtain ⟨x, M, rfl⟩ := List.exists_cons_of_ne_nil hL
    rw [List.flatMap_cons]
    intro e
    exact opr_ne x (List.append_eq_nil_iff.1 e).1
  have he : (codB L).dropLast = (L.length : Int) :: (L.flatMap opr).dropLast := by
    rw [codB, List.dropLast_cons_of_ne_nil hne]
  rw [he]
  have hlt : 0 < ((L.length : Int) :: (L.flatMap opr).dropLast).length := by simp
  rw [show (0 : Int) = ((0 : Nat) : Int) from rfl, rdC_yes (m := L.length) hlt rfl ⟨h1, h2⟩, rdS_cut hL h3 (by simp) (by simp)]
end Go.Proofs.YthmfjdafmnmgiaaDoor
