/-
  Plain facts for ValueBack: what was read has just those bytes; what has bytes is read from them, wherever they stand.
-/
import Derived.Test.YtndgiehipajghaaDoorVreads
import Derived.Test.YtndgiehipajghaaDoorVone2
namespace Go.Proofs.YtndgiehipajghaaDoor
open Go.RowKit
set_option linter.unusedSimpArgs false
set_option linter.unusedVariables false

theorem rdT_err {l : List Int} {p k a b n e : Int} (h : rdT l p = (k, a, b, n, e)) (he : e ≠ 0) : k = 0 ∧ a = 0 ∧ b = 0 ∧ n = 0 := by
  unfold rdT at h
  split at h
  · obtain ⟨rfl, rfl, rfl, rfl, rfl⟩ := by simpa using h
    exact ⟨rfl, rfl, rfl, rfl⟩
  · split at h
    · obtain ⟨rfl, rfl, rfl, rfl, rfl⟩ := by simpa using h
      exact ⟨rfl, rfl, rfl, rfl⟩
    · split at h
      · split at h
        · obtain ⟨rfl, rfl, rfl, rfl, rfl⟩ := by simpa using h
          exact ⟨rfl, rfl, rfl, rfl⟩
        · simp only [Prod.mk.injEq] at h
          exact absurd h.2.2.2.2.symm he
      · split at h
        · split at h
          · obtain ⟨rfl, rfl, rfl, rfl, rfl⟩ := by simpa using h
            exact ⟨rfl, rfl, rfl, rfl⟩
          · split at h
            · simp only [Prod.mk.injEq] at h
              exact absurd h.2.2.2.2.symm he
            · obtain ⟨rfl, rfl, rfl, rfl, rfl⟩ := by simpa using h
              exact ⟨rfl, rfl, rfl, rfl⟩
        · obtain ⟨rfl, rfl, rfl, rfl, rfl⟩ := by simpa using h
          exact ⟨rfl, rfl, rfl, rfl⟩
theorem digs_x3 {l : List Int} (hb : Byt l) {q : Nat} (h : q + 3 ≤ l.length) : digs (x3 l q) 3 = (l.drop q).take 3 := by
  have := digs_num (byt_take (byt_drop hb q) 3)
  rw [show ((l.drop q).take 3).length = 3 by simp; omega] at this
  exact this
theorem digs_wrap (n : Int) : digs (wrap64 n) 8 = digs n 8 := by
  refine digs_congr ?_
  rw [p256_8]
  unfold wrap64
  omega
/-- What was read has just those bytes. -/
theorem rdT_ok {l : List Int} (hb : Byt l) {p k a b n : Int} (h : rdT l p = (k, a, b, n, 0)) : ∃ q m : Nat, p = q ∧ n = q + m ∧ mayB k a b = true ∧ bytL k a b = (l.drop q).take m ∧ (bytL k a b).length = m ∧ q + m ≤ l.length := by
  unfold rdT at h
  split at h
  · simp at h
  · rename_i hp
    split at h
    · simp at h
    · rename_i hp2
      obtain ⟨q, rfl⟩ : ∃ q : Nat, p = q := ⟨p.toNat, by omega⟩
      rw [Int.toNat_natCast] at h
      have hq : q < l.length := by omega
      have hd : l.drop q = l[q]?.getD 0 :: l.drop (q + 1) := by
        rw [List.drop_eq_getElem_cons hq, List.getElem?_eq_getElem hq]; rfl
      split at h
      · rename_i hk
        split at h
        · simp at h
        · rename_i hs
          obtain ⟨rfl, rfl, rfl, rfl⟩ := by simpa using h
          have e : bytL 1 (wrap64 (num ((l.drop (q + 1)).take 8))) 0 = (l.drop q).take 9 := by
            rw [(bytE_1 _).2.1, valB_1, digs_wrap, hd, hk, List.take_succ_cons]
            have := digs_num (byt_take (byt_drop hb (q + 1)) 8)
            rw [show ((l.drop (q + 1)).take 8).length = 8 by simp; omega] at this
            rw [this]
          exact ⟨q, 9, rfl, rfl, by simp [mayB], e, by rw [e]; simp; omega, by omega⟩
      · split at h
        · rename_i hk
          split at h
          · simp at h
          · rename_i hs
            split at h
            · rename_i hm
              obtain ⟨rfl, rfl, rfl, rfl⟩ := by simpa using h
              have e : bytL 2 (x3 l (q + 1) - 1048576) (x3 l (q + 4) - 1048576) = (l.drop q).take 7 := by
                rw [bytL, if_pos hm, valB_2, Int.sub_add_cancel, Int.sub_add_cancel, hd, hk, List.take_succ_cons, digs_x3 hb (by omega), digs_x3 hb (by omega), show (6 : Nat) = 3 + 3 from rfl, List.take_add, List.drop_drop]
              exact ⟨q, 7, rfl, rfl, hm, e, by rw [e]; simp; omega, by omega⟩
            · simp at h
        · simp at h
theorem rdT_at (l1 M l3 : List Int) {k a b n e : Int} (hM : M ≠ []) (h : rdT (M ++ l3) 0 = (k, a, b, n, e)) (h0 : e = 0) : rdT (l1 ++ (M ++ l3)) (l1.length : Int) = (k, a, b, (l1.length : Int) + n, e) := by
  have hl : 0 < M.length := List.length_pos_iff.2 hM
  have key : ∀ j, (l1 ++ (M ++ l3)).drop (l1.length + j) = (M ++ l3).drop j := fun j => by rw [List.drop_append, List.drop_of_length_le (by omega), List.nil_append]; congr 1; omega
  have key2 : (l1 ++ (M ++ l3))[l1.length]? = (M ++ l3)[0]? := by rw [List.getElem?_append_right (Nat.le_refl _), Nat.sub_self]
  subst h0
  unfold rdT x3 at h ⊢
  simp only [Int.toNat_natCast, Int.toNat_zero, key, key2, Nat.zero_add, List.length_append] at h ⊢
  have e1 : ¬ ((0 : Int) < 0 ∨ ((M.length + l3.length : Nat) : Int) < 0) := by omega
  have e2 : ¬ (((M.length + l3.length : Nat) : Int) = 0) := by omega
  have e3 : ¬ ((l1.length : Int) < 0 ∨ ((l1.length + (M.length + l3.length) : Nat) : Int) < l1.length) := by omega
  have e4 : ¬ (((l1.length + (M.length + l3.length) : Nat) : Int) = l1.length) := by omega
  rw [if_neg e1, if_neg e2] at h
  rw [if_neg e3, if_neg e4]
  split at h
  · rename_i hk
    rw [if_pos hk]
    split at h
    · simp at h
    · rename_i hs
      obtain ⟨rfl, rfl, rfl, rfl⟩ := by simpa using h
      rw [if_neg (by omega)]
      simp
  · rename_i hk
    rw [if_neg hk]
    split at h
    · rename_i hk2
      rw [if_pos hk2]
      split at h
      · simp at h
      · rename_i hs
        rw [if_neg (by omega)]
        split at h
        · rename_i hm
          obtain ⟨rfl, rfl, rfl, rfl⟩ := by simpa using h
          rw [if_pos hm]
          simp
        · simp at h
    · simp at h
end Go.Proofs.YtndgiehipajghaaDoor
