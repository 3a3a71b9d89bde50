/-
  Code and its text, by definition: each is parsed from its text; what is parsed has just that text. No program is named here.
-/
import Derived.Test.YthmfjdafmnmgiaaDoorCrp
import Derived.Test.YthmfjdafmnmgiaaDoorCm
namespace Go.Proofs.YthmfjdafmnmgiaaDoor
open Go.RowKit
set_option maxRecDepth 100000

theorem nmI_list (j : Nat) (hj : j < 33) : nmI j = (opNm.getD j []).map fun u => (u.toNat : Int) := by
  rw [nmI, opS, if_pos (by omega)]
  simp
theorem nmI_let : ∀ i : Nat, i < 33 → (((opNm.getD i []).map fun u => (u.toNat : Int)).all fun c => c != 32 && c != 10) = true := by decide
theorem nmI_inj0 : ∀ i : Nat, i < 33 → ∀ j : Nat, j < 33 → ((opNm.getD i []).map fun u => (u.toNat : Int)) = ((opNm.getD j []).map fun u => (u.toNat : Int)) → i = j := by decide
theorem nmI_chr {n : Int} (h0 : 0 ≤ n) (h : n < 33) : ∀ c ∈ nmI n, c ≠ 32 ∧ c ≠ 10 := by
  obtain ⟨j, rfl⟩ : ∃ j : Nat, n = j := ⟨n.toNat, by omega⟩
  intro c hc
  rw [nmI_list j (by omega)] at hc
  have := List.all_eq_true.1 (nmI_let j (by omega)) c hc
  simpa using this
theorem opP_name {n : Int} (h0 : 0 ≤ n) (h : n < 33) : opP (nmI n) = (n, true) := by
  obtain ⟨j, rfl⟩ : ∃ j : Nat, n = j := ⟨n.toNat, by omega⟩
  have hf : (List.range 33).find? (fun i => nmI (i : Nat) == nmI j) = some j := by
    refine List.find?_range_eq_some.2 ⟨by simp, by simp; omega, fun i hi => ?_⟩
    simp only [Bool.not_eq_true', beq_eq_false_iff_ne]
    intro e
    rw [nmI_list i (by omega), nmI_list j (by omega)] at e
    have := nmI_inj0 i (by omega) j (by omega) e
    omega
  rw [opP, hf]
theorem opP_inv {T : List Int} {o : Int} (h : opP T = (o, true)) : nmI o = T := by
  unfold opP at h
  split at h
  · rename_i j hj
    injection h with h1 h2
    subst h1
    have := (List.find?_range_eq_some.1 hj).1
    simpa using this
  · injection h with h1 h2
    cases h2
theorem dgT_dig (n : Nat) : dgA (dgT n) = true := by
  induction n using Nat.strongRecOn with
  | ind n ih =>
    by_cases h : n < 10
    · rw [dgT_lt h]; simp [dgA]; omega
    · rw [dgT_ge h, dgA, List.all_append, ← dgA, ih _ (by omega)]; simp; omega
theorem vlT_dgT (n : Nat) : vlT (dgT n) = n := by
  induction n using Nat.strongRecOn with
  | ind n ih =>
    by_cases h : n < 10
    · rw [dgT_lt h]; simp [vlT]; omega
    · rw [dgT_ge h, vlT_snoc, ih _ (by omega)]; omega
theorem numT_dgT {n : Nat} (h : n ≤ 9999) : numT (dgT n) = n := by
  have h1 := len_dgT n h
  rw [numT, if_neg (by omega), if_neg (by rw [dgT_dig]; decide), vlT_dgT, Int.toNat_natCast, if_pos rfl]
theorem numT_inv {S : List Int} (h : 0 ≤ numT S) : dgT (numT S).toNat = S := by
  unfold numT at h ⊢
  by_cases h1 : S.length < 1 ∨ 4 < S.length
  · rw [if_pos h1] at h; omega
  · rw [if_neg h1] at h ⊢
    by_cases h2 : dgA S = false
    · rw [if_pos h2] at h; omega
    · rw [if_neg h2] at h ⊢
      by_cases h3 : dgT (vlT S).toNat = S
      · rw [if_pos h3]; exact h3
      · rw [if_neg h3] at h; omega
/-- A line without its end. -/
def lnC (x : Ins) : List Int := nmI x.1 ++ (if wdB x.1 then 32 :: dgT x.2.1.toNat else [])
theorem lnT_lnC (x : Ins) : lnT x = lnC x ++ [10] := rfl
theorem tw_all {T : List Int} (h : ∀ c ∈ T, c ≠ 32) : (T.takeWhile fun c => c != 32) = T := by
  induction T with
  | nil => rfl
  | cons c T ih => rw [List.takeWhile_cons, if_pos (by simpa using h c (by simp)), ih (fun d hd => h d (by simp [hd]))]
theorem spK_name {T : List Int} (h : ∀ c ∈ T, c ≠ 32) : spK T = T.length := by rw [spK, tw_all h]
theorem spK_word {T U : List Int} (h : ∀ c ∈ T, c ≠ 32) : spK (T ++ 32 :: U) = T.length := by
  rw [spK, List.takeWhile_append_of_pos (fun c hc => by simpa using h c hc), List.takeWhile_cons, if_neg (by decide), List.append_nil]
theorem lnP_enc {x : Ins} (h : inM x = true) (h0 : 0 ≤ x.1) : lnP (lnC x) = (x, true) := by
  obtain ⟨g1, g2, g3⟩ := opM_bd h
  obtain ⟨q1, q2, q3⟩ := inM_parts h
  obtain ⟨n, a, b⟩ := x
  simp only at g1 g2 g3 q1 q2 q3 h0
  subst q3
  have h' : opM n a 0 = true := h
  have hc : ∀ c ∈ nmI n, c ≠ 32 := fun c hc => (nmI_chr h0 g3 c hc).1
  have ho := opP_name h0 g3
  cases hw : wdB n with
  | true =>
    have e : lnC (n, a, 0) = nmI n ++ 32 :: dgT a.toNat := by simp [lnC, hw]
    have ek : spK (nmI n ++ 32 :: dgT a.toNat) = (nmI n).length := spK_word hc
    have et : (nmI n ++ 32 :: dgT a.toNat).take (nmI n).length = nmI n := List.take_left
    have ed : (nmI n ++ 32 :: dgT a.toNat).drop ((nmI n).length + 1) = dgT a.toNat := by rw [← List.drop_drop, List.drop_left]; rfl
    have en : numT (dgT a.toNat) = a := by rw [numT_dgT (by omega)]; omega
    rw [e, lnP, ek, et, ho, ed, en]
    simp only
    rw [if_neg (by decide), hw, if_neg (by decide), if_neg (by simp), h']
  | false =>
    have hh : ¬ 0 < opHi n := by simpa [wdB] using hw
    have h0' := opLo_nonneg n
    obtain rfl : a = 0 := by omega
    have e : lnC (n, 0, 0) = nmI n := by simp [lnC, hw]
    rw [e, lnP, spK_name hc, List.take_length, ho]
    simp only
    rw [if_neg (by decide), hw, if_pos rfl]
    simp
theorem lnC_chr {x : Ins} (h : inM x = true) (h0 : 0 ≤ x.1) : ∀ c ∈ lnC x, c ≠ 10 := by
  obtain ⟨g1, g2, g3⟩ := opM_bd h
  intro c hc
  rcases List.mem_append.1 hc with hc | hc
  · exact (nmI_chr h0 g3 c hc).2
  · split at hc
    · rcases List.mem_cons.1 hc with rfl | hc
      · decide
      · have := List.all_eq_true.1 (dgT_dig x.2.1.toNat) c hc
        simp at this
        omega
    · cases hc
theorem psL_word {T : List Int} : ∀ {cur : List Int} {K : List Ins} {rest : List Int}, (∀ c ∈ T, c ≠ 10) → psL (T ++ rest) cur K = psL rest (cur ++ T) K := by
  induction T with
  | nil => intro cur K rest _; simp
  | cons c T ih =>
    intro cur K rest h
    have hc : (c != 10) = true := by simpa using h c (by simp)
    rw [List.cons_append, psL, if_pos hc, ih (fun d hd => h d (by simp [hd])), List.append_assoc]
    rfl
theorem psL_enc : ∀ {M : List Ins} {K : List Ins}, (∀ x ∈ M, inM x = true ∧ 0 ≤ x.1) → K.length + M.length ≤ 200 → K ++ M ≠ [] → psL (M.flatMap lnT) [] K = (0, K ++ M)
  | [], K, _, _, hne => by
    rw [List.flatMap_nil, psL_end, if_pos ⟨rfl, by simpa using hne⟩, List.append_nil]
  | x :: M, K, h, hl, _ => by
    obtain ⟨h1, h2⟩ := h x (by simp)
    rw [List.length_cons] at hl
    rw [List.flatMap_cons, lnT_lnC, List.append_assoc, psL_word (lnC_chr h1 h2), List.nil_append, List.cons_append, List.nil_append, psL, if_neg (by decide), lnP_enc h1 h2, if_pos ⟨rfl, by omega⟩,
      psL_enc (fun y hy => h y (by simp [hy])) (by rw [List.length_append]; simp; omega) (by simp), List.append_assoc]
    rfl
/-- What has a text is parsed from it. -/
theorem psC_enc {L : List Ins} (h : codM L = true) (h0 : ∀ x ∈ L, 0 ≤ x.1) : psC (codT L) = (0, L) := by
  obtain ⟨h1, h2, h3⟩ := codM_parts h
  have hne : ([] : List Ins) ++ L ≠ [] := fun e => by rw [List.nil_append] at e; rw [e] at h1; simp at h1
  rw [psC, codT, psL_enc (fun x hx => ⟨h3 x hx, h0 x hx⟩) (by simpa using h2) hne]
  rfl
theorem lnP_inv {S : List Int} {x : Ins} (h : lnP S = (x, true)) : inM x = true ∧ S ++ [10] = lnT x := by
  have hb := opP_bd (S.take (spK S))
  have hk := spK_le S
  obtain ⟨o, v, ho⟩ : ∃ o v, opP (S.take (spK S)) = (o, v) := ⟨_, _, rfl⟩
  rw [lnP, ho] at h
  rw [ho] at hb
  simp only at h hb
  cases v with
  | false => rw [if_pos rfl] at h; simp at h
  | true =>
    have hn := opP_inv ho
    rw [if_neg (by decide)] at h
    cases hw : wdB o with
    | false =>
      rw [hw, if_pos rfl] at h
      injection h with h1 h2
      subst h1
      have hkl : spK S = S.length := of_decide_eq_true h2
      rw [hkl, List.take_length] at hn
      have hh : ¬ 0 < opHi o := by simpa [wdB] using hw
      refine ⟨?_, by rw [lnT_lnC, lnC]; simp [hw, hn]⟩
      have h28 : opLo o = 0 ∧ 0 ≤ opHi o := by
        unfold opLo
        unfold opHi at hh ⊢
        by_cases e : o = 28
        · subst e; simp at hh
        · rw [if_neg e]
          refine ⟨rfl, ?_⟩
          repeat' split
          all_goals omega
      show opM o 0 0 = true
      rw [opM, h28.1, decide_eq_true (by omega), decide_eq_true h28.2]
      rfl
    | true =>
      rw [hw, if_neg (by decide)] at h
      by_cases hkl : spK S = S.length
      · rw [if_pos hkl] at h; simp at h
      · rw [if_neg hkl] at h
        injection h with h1 h2
        subst h1
        have hM : inM (o, numT (S.drop (spK S + 1)), 0) = true := h2
        have hp := (inM_parts hM).1
        have hl0 := opLo_nonneg o
        simp only at hp
        have hd := numT_inv (S := S.drop (spK S + 1)) (by omega)
        have hc := spK_at (S := S) (by omega)
        have hc' : S[spK S] = 32 := by simpa using hc
        refine ⟨hM, ?_⟩
        rw [lnT_lnC, lnC]
        simp only [hw, if_true]
        rw [hd, hn]
        congr 1
        have := List.drop_eq_getElem_cons (l := S) (i := spK S) (by omega)
        rw [hc'] at this
        rw [← this, List.take_append_drop]
theorem psL_inv : ∀ {S cur : List Int} {K L : List Ins}, K.length ≤ 200 → psL S cur K = (0, L) → ∃ M, L = K ++ M ∧ (∀ x ∈ M, inM x = true) ∧ (∀ x ∈ M, InOk x) ∧ cur ++ S = M.flatMap lnT ∧ L ≠ [] ∧ L.length ≤ 200
  | [], cur, K, L, hK, h => by
    rw [psL_end] at h
    by_cases h1 : cur = [] ∧ K ≠ []
    · rw [if_pos h1] at h
      injection h with _ h2
      subst h2
      exact ⟨[], by simp, fun x hx => (by cases hx), fun x hx => (by cases hx), by rw [h1.1]; rfl, h1.2, hK⟩
    · rw [if_neg h1] at h; simp at h
  | c :: S, cur, K, L, hK, h => by
    rw [psL] at h
    by_cases h1 : (c != 10) = true
    · rw [if_pos h1] at h
      obtain ⟨M, e1, e2, e3, e4, e5, e6⟩ := psL_inv hK h
      exact ⟨M, e1, e2, e3, by rw [← e4, List.append_assoc]; rfl, e5, e6⟩
    · rw [if_neg h1] at h
      have hc : c = 10 := by simpa using h1
      subst hc
      by_cases h2 : (lnP cur).2 = true ∧ K.length < 200
      · rw [if_pos h2] at h
        obtain ⟨x, hx⟩ : ∃ x, lnP cur = (x, true) := ⟨(lnP cur).1, by rw [← h2.1]⟩
        have hok := lnP_ok cur
        rw [hx] at h hok
        obtain ⟨m1, m2⟩ := lnP_inv hx
        obtain ⟨M, e1, e2, e3, e4, e5, e6⟩ := psL_inv (by rw [List.length_append]; simp; omega) h
        refine ⟨x :: M, by rw [e1, List.append_assoc]; rfl, ?_, ?_, ?_, e5, e6⟩
        · intro y hy
          rcases List.mem_cons.1 hy with rfl | hy
          · exact m1
          · exact e2 y hy
        · intro y hy
          rcases List.mem_cons.1 hy with rfl | hy
          · exact hok
          · exact e3 y hy
        · rw [List.flatMap_cons, ← m2, ← e4, List.nil_append, List.append_assoc]
          rfl
      · rw [if_neg h2] at h; simp at h
/-- What is parsed has just that text. -/
theorem psC_inv {S : List Int} {L : List Ins} (h : psC S = (0, L)) : codM L = true ∧ (∀ x ∈ L, InOk x) ∧ codT L = S := by
  obtain ⟨M, e1, e2, e3, e4, e5, e6⟩ := psL_inv (by simp) h
  rw [List.nil_append] at e1 e4
  subst e1
  exact ⟨codM_mk (List.length_pos_iff.2 e5) e6 e2, e3, e4.symm⟩
end Go.Proofs.YthmfjdafmnmgiaaDoor
