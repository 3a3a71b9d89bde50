/-
  Pools and their bytes, on lists alone: each is read from its bytes, wherever they stand; what is read has just those bytes; without the last byte nothing is read. No program is named here.
-/
import Derived.Test.YtohbndjfnakelaaDoorPr
namespace Go.Proofs.YtohbndjfnakelaaDoor
open Go.RowKit
set_option maxRecDepth 100000
set_option linter.unusedVariables false

theorem vB_ne (x : Vlu) : vB x ≠ [] := by
  rw [vB, valB]
  split <;> simp
theorem vlen_drop {l Y Z : List Int} {p : Nat} (h : l.drop p = Z ++ Y) (hz : Z ≠ []) : p < l.length ∧ l.length = p + Z.length + Y.length := by
  have h1 := congrArg List.length h
  rw [List.length_drop, List.length_append] at h1
  have h2 : 0 < Z.length := List.length_pos_iff.2 hz
  omega
theorem rdT_vB {x : Vlu} (h : vM x = true) (h0 : VlOk x) (Y : List Int) : rdT (vB x ++ Y) 0 = (x.1, x.2.1, x.2.2, ((vB x).length : Int), 0) := by
  obtain ⟨k, a, b⟩ := x
  rcases may_cases (k := k) (a := a) (b := b) h with ⟨rfl, rfl⟩ | ⟨rfl, ho⟩
  · show rdT (valB 1 a 0 ++ Y) 0 = (1, a, 0, ((valB 1 a 0).length : Int), 0)
    rw [rdT_1 Y h0.2.1, len_1]; rfl
  · show rdT (valB 2 a b ++ Y) 0 = (2, a, b, ((valB 2 a b).length : Int), 0)
    rw [rdT_2 Y ho, len_2]; rfl
theorem rdT_enc {l Y : List Int} {p : Nat} {x : Vlu} (h : vM x = true) (h0 : VlOk x) (hd : l.drop p = vB x ++ Y) : rdT l p = (x.1, x.2.1, x.2.2, ((p + (vB x).length : Nat) : Int), 0) := by
  obtain ⟨hp, _⟩ := vlen_drop hd (vB_ne x)
  have hl : l = l.take p ++ (vB x ++ Y) := by rw [← hd, List.take_append_drop]
  have ht : (l.take p).length = p := by rw [List.length_take]; omega
  have := rdT_at (l.take p) (vB x) Y (vB_ne x) (rdT_vB h h0 Y) rfl
  rw [← hl, ht] at this
  rw [this]
  simp
theorem rpS_enc {l Y : List Int} {L : List Vlu} (h : ∀ x ∈ L, vM x = true) (h0 : ∀ x ∈ L, VlOk x) : ∀ {p : Nat}, l.drop p = L.flatMap vB ++ Y → rpS l L.length p = (L, ((p + (L.flatMap vB).length : Nat) : Int), 0) := by
  induction L with
  | nil => intro p _; rfl
  | cons x L ih =>
    intro p hd
    rw [List.flatMap_cons, List.append_assoc] at hd
    have h1 := rdT_enc (h x (by simp)) (h0 x (by simp)) hd
    have hd2 : l.drop (p + (vB x).length) = L.flatMap vB ++ Y := by rw [← List.drop_drop, hd, List.drop_left]
    rw [List.length_cons, rpS_yes h1, ih (fun y hy => h y (by simp [hy])) (fun y hy => h0 y (by simp [hy])) hd2, apV, if_pos rfl, List.flatMap_cons, List.length_append, Nat.add_assoc]
    rfl
theorem get_1 {l : List Int} (hb : Byt l) {p : Nat} (h : p < l.length) : getE l p 1 = 0 ∧ getV l p 1 = l[p]?.getD 0 ∧ getN l p 1 = ((p + 1 : Nat) : Int) := by
  obtain ⟨h1, h2, h3⟩ := get1 hb h
  exact ⟨h3, h1, by rw [h2]; omega⟩
/-- What has bytes is read from them, wherever they stand. -/
theorem rdP_enc {L : List Vlu} (h : poM L = true) (h0 : ∀ x ∈ L, VlOk x) (X Y : List Int) (hX : Byt X) (hY : Byt Y) : rdP (X ++ (poB L ++ Y)) X.length = (L, ((X.length + (poB L).length : Nat) : Int), 0) := by
  have hd : (X ++ (poB L ++ Y)).drop X.length = poB L ++ Y := List.drop_left
  have hd1 : (X ++ (poB L ++ Y)).drop (X.length + 1) = L.flatMap vB ++ Y := by rw [← List.drop_drop, hd, poB]; rfl
  have hlt : X.length < (X ++ (poB L ++ Y)).length := by simp [poB]
  have hby : Byt (X ++ (poB L ++ Y)) := byt_append hX (byt_append (poB_byt (poM_le h)) hY)
  obtain ⟨e1, e2, e3⟩ := get_1 hby hlt
  have he : (X ++ (poB L ++ Y))[X.length]?.getD 0 = (L.length : Int) := by
    rw [List.getElem?_append_right (Nat.le_refl _), Nat.sub_self, poB]; rfl
  rw [rdP, if_pos e1, e2, he, if_neg (by have := poM_le h; omega), e3, Int.toNat_natCast, rpS_enc (poM_at h) h0 hd1, poB, List.length_cons]
  congr 2
  omega
theorem rdT_inv {l : List Int} (hb : Byt l) {p : Nat} {k a b n : Int} (h : rdT l p = (k, a, b, n, 0)) : vM (k, a, b) = true ∧ VlOk (k, a, b) ∧ ∃ q : Nat, n = (q : Int) ∧ q = p + (vB (k, a, b)).length ∧ q ≤ l.length ∧ l.drop p = vB (k, a, b) ++ l.drop q := by
  obtain ⟨q, m, hq, hn, hm, hB, hl, hle⟩ := rdT_ok hb h
  obtain rfl : p = q := by omega
  have hv : vM (k, a, b) = true := hm
  have e : bytL k a b = vB (k, a, b) := bytL_of hv
  rw [e] at hB hl
  refine ⟨hv, rdT_vok hb h, p + m, by omega, by omega, hle, ?_⟩
  rw [hB, ← List.drop_drop, List.take_append_drop]
theorem rpS_inv {l : List Int} (hb : Byt l) : ∀ {k p : Nat} {L : List Vlu} {n : Int}, p ≤ l.length → rpS l k p = (L, n, 0) → L.length = k ∧ (∀ x ∈ L, vM x = true) ∧ (∀ x ∈ L, VlOk x) ∧ ∃ q : Nat, n = (q : Int) ∧ q = p + (L.flatMap vB).length ∧ q ≤ l.length ∧ l.drop p = L.flatMap vB ++ l.drop q := by
  intro k
  induction k with
  | zero =>
    intro p L n hp h
    simp only [rpS, Prod.mk.injEq, and_true] at h
    obtain ⟨rfl, rfl⟩ := h
    exact ⟨rfl, fun x hx => (by cases hx), fun x hx => (by cases hx), p, rfl, rfl, hp, rfl⟩
  | succ k ih =>
    intro p L n hp h
    obtain ⟨x, a, b, n1, e, hr⟩ : ∃ x a b n1 e, rdT l p = (x, a, b, n1, e) := ⟨_, _, _, _, _, rfl⟩
    by_cases he : e = 0
    · subst he
      rw [rpS_yes hr] at h
      obtain ⟨m1, m2, q1, rfl, m3, m4, m5⟩ := rdT_inv hb hr
      unfold apV at h
      by_cases h2 : (rpS l k (q1 : Int)).2.2 = 0
      · rw [if_pos h2] at h
        obtain ⟨M, n2, hs⟩ : ∃ M n2, rpS l k (q1 : Int) = (M, n2, 0) := ⟨_, _, by rw [← h2]⟩
        rw [hs] at h
        simp only [Prod.mk.injEq, and_true] at h
        obtain ⟨rfl, rfl⟩ := h
        obtain ⟨n1, n2, n3, q, rfl, n4, n5, n6⟩ := ih m4 hs
        refine ⟨by rw [List.length_append, n1]; simp; omega, ?_, ?_, q, rfl, ?_, n5, ?_⟩
        · intro y hy
          rcases List.mem_append.1 hy with hy | hy
          · rw [List.mem_singleton.1 hy]; exact m1
          · exact n2 y hy
        · intro y hy
          rcases List.mem_append.1 hy with hy | hy
          · rw [List.mem_singleton.1 hy]; exact m2
          · exact n3 y hy
        · rw [n4, m3, List.flatMap_append, List.length_append]; simp; omega
        · rw [m5, n6, List.flatMap_append, List.append_assoc]; simp
      · rw [if_neg h2] at h
        exact absurd (congrArg (fun r => r.2.2) h) h2
    · rw [rpS_no hr he] at h
      exact absurd (congrArg (fun r => r.2.2) h) he
theorem poM_mk {L : List Vlu} (h2 : L.length ≤ 32) (h3 : ∀ x ∈ L, vM x = true) : poM L = true := by
  rw [poM, decide_eq_true h2, List.all_eq_true.2 h3]; rfl
theorem getE_1 {l : List Int} {p : Int} (h : getE l p 1 = 0) : 0 ≤ p ∧ p.toNat < l.length := by
  by_cases h1 : p < 0 ∨ (l.length : Int) < p + 1
  · exfalso
    have hc : cutE l p 1 ≠ 0 := by unfold cutE; repeat' split
                                   all_goals omega
    rw [getE, if_neg (by omega), if_neg hc] at h
    exact hc h
  · omega
/-- What is read has just those bytes. -/
theorem rdP_inv {l : List Int} (hb : Byt l) {p : Int} {L : List Vlu} {n : Int} (h : rdP l p = (L, n, 0)) : poM L = true ∧ (∀ x ∈ L, VlOk x) ∧ ∃ i q : Nat, p = (i : Int) ∧ n = (q : Int) ∧ q ≤ l.length ∧ q = i + (poB L).length ∧ l.drop i = poB L ++ l.drop q := by
  unfold rdP at h
  by_cases h1 : getE l p 1 = 0
  · obtain ⟨hp0, hlt⟩ := getE_1 h1
    obtain ⟨i, rfl⟩ : ∃ i : Nat, p = i := ⟨p.toNat, by omega⟩
    rw [Int.toNat_natCast] at hlt
    obtain ⟨e1, e2, e3⟩ := get_1 hb hlt
    rw [if_pos h1, e2, e3] at h
    have c0 : l.drop i = l[i]?.getD 0 :: l.drop (i + 1) := by rw [List.drop_eq_getElem_cons hlt, List.getElem?_eq_getElem hlt]; rfl
    have hby : 0 ≤ l[i]?.getD 0 := by rw [List.getElem?_eq_getElem hlt]; exact (hb _ (List.getElem_mem hlt)).1
    generalize l[i]?.getD 0 = m at *
    by_cases h3 : 32 < m
    · rw [if_pos h3] at h; simp at h
    · rw [if_neg h3] at h
      obtain ⟨n1, n2, n3, q, rfl, n4, n5, n6⟩ := rpS_inv hb (by omega) h
      have hm : (L.length : Int) = m := by omega
      refine ⟨poM_mk (by omega) n2, n3, i, q, rfl, rfl, n5, by rw [n4, poB, List.length_cons]; omega, ?_⟩
      rw [c0, n6, poB, hm]
      rfl
  · rw [if_neg h1] at h
    exact absurd (congrArg (fun r => r.2.2) h) h1
theorem vlen_drop2 {l Z : List Int} {p : Nat} (h : l.drop p = Z) (hp : p ≤ l.length) : l.length = p + Z.length := by
  have h1 := congrArg List.length h
  rw [List.length_drop] at h1
  omega
theorem rdT_cut {l : List Int} {p : Nat} {x : Vlu} (h : vM x = true) (hp : p ≤ l.length) (hd : l.drop p = (vB x).dropLast) : (rdT l p).2.2.2.2 = 10 := by
  have hk : l[p]? = (vB x).dropLast[0]? := by rw [← hd, List.getElem?_drop]; rfl
  have hl := vlen_drop2 hd hp
  obtain ⟨k, a, b⟩ := x
  rcases may_cases (k := k) (a := a) (b := b) h with ⟨rfl, rfl⟩ | ⟨rfl, ho⟩
  · have e : vB (1, a, 0) = 1 :: digs a 8 := valB_1 a
    rw [e] at hk hl
    have h8 : (1 :: digs a 8).dropLast.length = 8 := by rw [List.length_dropLast, List.length_cons, length_digs]
    rw [h8] at hl
    have h0 : l[(p : Int).toNat]?.getD 0 = 1 := by rw [Int.toNat_natCast, hk, List.dropLast_cons_of_ne_nil (by intro e; have := congrArg List.length e; rw [length_digs] at this; cases this)]; rfl
    unfold rdT
    rw [if_neg (by omega), if_neg (by omega), if_pos h0, if_pos (by rw [Int.toNat_natCast]; omega)]
  · have e : vB (2, a, b) = 2 :: (digs (a + 1048576) 3 ++ digs (b + 1048576) 3) := valB_2 a b
    rw [e] at hk hl
    have h6 : (2 :: (digs (a + 1048576) 3 ++ digs (b + 1048576) 3)).dropLast.length = 6 := by rw [List.length_dropLast, List.length_cons, List.length_append, length_digs, length_digs]
    rw [h6] at hl
    have h0 : l[(p : Int).toNat]?.getD 0 = 2 := by rw [Int.toNat_natCast, hk, List.dropLast_cons_of_ne_nil (by intro e; have := congrArg List.length e; rw [List.length_append, length_digs, length_digs] at this; cases this)]; rfl
    unfold rdT
    rw [if_neg (by omega), if_neg (by omega), if_neg (by rw [h0]; decide), if_pos h0, if_pos (by rw [Int.toNat_natCast]; omega)]
theorem rpS_cut {l : List Int} : ∀ {L : List Vlu} {p : Nat}, L ≠ [] → (∀ x ∈ L, vM x = true) → (∀ x ∈ L, VlOk x) → p ≤ l.length → l.drop p = (L.flatMap vB).dropLast → rpS l L.length p = ([], 0, 10)
  | [], p, h, _, _, _, _ => absurd rfl h
  | [x], p, _, h, h0, hp, hd => by
    rw [List.flatMap_cons, List.flatMap_nil, List.append_nil] at hd
    have hc := rdT_cut (h x (by simp)) hp hd
    obtain ⟨k, a, b, n, e, hr⟩ : ∃ k a b n e, rdT l p = (k, a, b, n, e) := ⟨_, _, _, _, _, rfl⟩
    rw [hr] at hc
    simp only at hc
    subst hc
    exact rpS_no hr (by decide)
  | x :: y :: L, p, _, h, h0, hp, hd => by
    have hne : (y :: L).flatMap vB ≠ [] := by
      rw [List.flatMap_cons]
      intro e
      exact vB_ne y (List.append_eq_nil_iff.1 e).1
    rw [List.flatMap_cons, List.dropLast_append_of_ne_nil hne] at hd
    have h1 := rdT_enc (h x (by simp)) (h0 x (by simp)) hd
    have hd2 : l.drop (p + (vB x).length) = ((y :: L).flatMap vB).dropLast := by rw [← List.drop_drop, hd, List.drop_left]
    have hp2 : p + (vB x).length ≤ l.length := by have := (vlen_drop hd (vB_ne x)).2; omega
    rw [List.length_cons, rpS_yes h1, rpS_cut (by simp) (fun z hz => h z (by simp [hz])) (fun z hz => h0 z (by simp [hz])) hp2 hd2]
    rfl
/-- Without the last byte nothing is read. -/
theorem rdP_cut {L : List Vlu} (h : poM L = true) (h0 : ∀ x ∈ L, VlOk x) : rdP ((poB L).dropLast) 0 = ([], 0, 10) := by
  by_cases hL : L = []
  · subst hL; decide
  · have hne : L.flatMap vB ≠ [] := by
      obtain ⟨x, M, rfl⟩ := List.exists_cons_of_ne_nil hL
      rw [List.flatMap_cons]
      intro e
      exact vB_ne x (List.append_eq_nil_iff.1 e).1
    have he : (poB L).dropLast = (L.length : Int) :: (L.flatMap vB).dropLast := by rw [poB, List.dropLast_cons_of_ne_nil hne]
    have hby : Byt ((L.length : Int) :: (L.flatMap vB).dropLast) := by rw [← he]; exact fun x hx => poB_byt (poM_le h) x (List.dropLast_subset _ hx)
    rw [he]
    have hlt : 0 < ((L.length : Int) :: (L.flatMap vB).dropLast).length := by simp
    obtain ⟨e1, e2, e3⟩ := get_1 hby hlt
    rw [show (0 : Int) = ((0 : Nat) : Int) from rfl, rdP, if_pos e1, e2, e3]
    have hg : ((L.length : Int) :: (L.flatMap vB).dropLast)[0]?.getD 0 = (L.length : Int) := rfl
    rw [hg, if_neg (by have := poM_le h; omega), Int.toNat_natCast, rpS_cut hL (poM_at h) h0 (by simp) (by simp)]
    rfl
theorem rdP_err {l : List Int} {p : Int} (h : (rdP l p).2.2 ≠ 0) : rdP l p = ([], 0, (rdP l p).2.2) := by
  have key : ∀ k q, (rpS l k q).2.2 ≠ 0 → rpS l k q = ([], 0, (rpS l k q).2.2) := by
    intro k q
    rw [← rpS_form]
    unfold apV
    split
    · exact fun h => absurd rfl h
    · exact fun _ => rfl
  revert h
  unfold rdP
  split
  · split
    · exact fun _ => rfl
    · exact key _ _
  · exact fun _ => rfl
end Go.Proofs.YtohbndjfnakelaaDoor
