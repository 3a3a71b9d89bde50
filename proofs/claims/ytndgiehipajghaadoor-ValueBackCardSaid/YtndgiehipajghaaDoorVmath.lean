/-
  What value.Read and value.Bytes answer, each ONE function of the arguments; the ways through Read, told by the bytes.
-/
import Derived.Test.YtndgiehipajghaaDoorVby
import Derived.Test.YtndgiehipajghaaDoorVread
namespace Go.Proofs.YtndgiehipajghaaDoor
open Go.RowKit

/-- Three bytes from a on. -/
def x3 (l : List Int) (a : Nat) : Int := num ((l.drop a).take 3)
/-- Read's answer: kind, first, second, next, error. -/
def rdT (l : List Int) (p : Int) : Int × Int × Int × Int × Int :=
  if p < 0 ∨ (l.length : Int) < p then (0, 0, 0, 0, 2)
  else if (l.length : Int) = p then (0, 0, 0, 0, 10)
  else if l[p.toNat]?.getD 0 = 1 then (if l.length < p.toNat + 9 then (0, 0, 0, 0, 10) else (1, wrap64 (num ((l.drop (p.toNat + 1)).take 8)), 0, p + 9, 0))
  else if l[p.toNat]?.getD 0 = 2 then (if l.length < p.toNat + 7 then (0, 0, 0, 0, 10)
    else if mayB 2 (x3 l (p.toNat + 1) - 1048576) (x3 l (p.toNat + 4) - 1048576) then (2, x3 l (p.toNat + 1) - 1048576, x3 l (p.toNat + 4) - 1048576, p + 7, 0) else (0, 0, 0, 0, 30))
  else (0, 0, 0, 0, 30)

theorem p256_3 : p256 3 = 16777216 := by decide
theorem x3_bd {l : List Int} (hb : Byt l) (a : Nat) : 0 ≤ x3 l a ∧ x3 l a < 16777216 := by
  have h1 := num_nonneg (byt_take (byt_drop hb a) 3)
  have h2 := num_lt (byt_take (byt_drop hb a) 3)
  have h3 := p256_le (show ((l.drop a).take 3).length ≤ 3 by simp; omega)
  rw [p256_3] at h3
  unfold x3
  omega
theorem num_one {l : List Int} {a : Nat} (h : a < l.length) : num ((l.drop a).take 1) = l[a]?.getD 0 := by
  have e : (l.drop a).take 1 = [l[a]] := by rw [List.drop_eq_getElem_cons h]; rfl
  rw [e, List.getElem?_eq_getElem h]
  simp [num]
/-- Get of one, of three bytes. -/
theorem get1 {l : List Int} (hb : Byt l) {a : Nat} (h : a < l.length) : getV l a 1 = l[a]?.getD 0 ∧ getN l a 1 = (a : Int) + 1 ∧ getE l a 1 = 0 := by
  have hn : num ((l.drop (a : Int).toNat).take (1 : Int).toNat) = l[a]?.getD 0 := num_one h
  have hbd : 0 ≤ l[a]?.getD 0 ∧ l[a]?.getD 0 < 256 := by
    rw [List.getElem?_eq_getElem h]; exact hb _ (List.getElem_mem h)
  obtain ⟨e1, e2, e3⟩ := get_ok (l := l) (p := a) (W := 1) (by omega) (by omega) (by omega) (by omega) (by rw [hn]; omega)
  exact ⟨by rw [e2, hn], e3, e1⟩
theorem get3 {l : List Int} (hb : Byt l) {a : Nat} (h : a + 3 ≤ l.length) : getV l a 3 = x3 l a ∧ getN l a 3 = (a : Int) + 3 ∧ getE l a 3 = 0 := by
  have hbd := x3_bd hb a
  have hn : num ((l.drop (a : Int).toNat).take (3 : Int).toNat) = x3 l a := rfl
  obtain ⟨e1, e2, e3⟩ := get_ok (l := l) (p := a) (W := 3) (by omega) (by omega) (by omega) (by omega) (by rw [hn]; omega)
  exact ⟨by rw [e2, hn], e3, e1⟩
theorem get3_short {l : List Int} {a : Nat} (h0 : a ≤ l.length) (h : l.length < a + 3) : getV l a 3 = 0 ∧ getN l a 3 = 0 ∧ getE l a 3 = 10 := by
  have e := get_short (l := l) (p := a) (W := 3) (by omega) (by omega) (by omega) (by omega)
  exact ⟨by rw [getV, e]; rfl, by rw [getN, e]; rfl, e⟩
theorem getE_bad {l : List Int} {p W : Int} {e : Int} (h : getE l p W = e) (he : e ≠ 0) : getV l p W = 0 ∧ getN l p W = 0 ∧ getE l p W = e := by
  have h' : getE l p W ≠ 0 := by rw [h]; exact he
  exact ⟨by rw [getV, if_neg h'], by rw [getN, if_neg h'], h⟩

theorem vread_v (A : Option Addr) (c : Nat) (l : List Int) (p k a b n e0 : Int) (w : World) (hr : Rd w A c l) (hw : GW w) (h : rdT l p = (k, a, b, n, e0)) :
    Calls Tryd.prog 19 #[.slice A l.length c, .int .i64 p] w fun e w' => e = .returned (.tuple #[.agg #[.int .u8 k, .int .i64 a, .int .i64 b], .int .i64 n, .int .i64 e0]) ∧ Below w.heap.size w w' := by
  have hb := hr.byt
  unfold rdT at h
  split at h
  · rename_i hp
    obtain ⟨rfl, rfl, rfl, rfl, rfl⟩ := by simpa using h
    have e : getE l p 1 = 2 := by rw [get_eq (by omega), (cut_arg hp).1]; rfl
    exact vr_1 A c l p _ _ 2 w hr hw (getE_bad e (by decide)) rfl
  · rename_i hp
    split at h
    · rename_i hp2
      obtain ⟨rfl, rfl, rfl, rfl, rfl⟩ := by simpa using h
      have e : getE l p 1 = 10 := get_short (by omega) (by omega) (by omega) (by omega)
      exact vr_1 A c l p _ _ 10 w hr hw (getE_bad e (by decide)) rfl
    · rename_i hp2
      obtain ⟨q, rfl⟩ : ∃ q : Nat, p = q := ⟨p.toNat, by omega⟩
      rw [Int.toNat_natCast] at h
      have hq : q < l.length := by omega
      have g1 := get1 hb hq
      have hbd : 0 ≤ l[q]?.getD 0 ∧ l[q]?.getD 0 < 256 := by
        rw [List.getElem?_eq_getElem hq]; exact hb _ (List.getElem_mem hq)
      have e1 : ((q : Int) + 1) = ((q + 1 : Nat) : Int) := by omega
      split at h
      · rename_i hk
        rw [hk, e1] at g1
        split at h
        · rename_i hs
          obtain ⟨rfl, rfl, rfl, rfl, rfl⟩ := by simpa using h
          obtain ⟨c1, c2, c3⟩ := cut_short (l := l) (p := (q + 1 : Nat)) (n := 8) (by omega) (by omega) (by omega)
          exact vr_3 A c l q _ _ _ 10 w hr hw g1 ⟨rfl, c3, c1⟩ rfl
        · rename_i hs
          obtain ⟨rfl, rfl, rfl, rfl, rfl⟩ := by simpa using h
          obtain ⟨c1, c2, c3⟩ := cut_yes (l := l) (p := (q + 1 : Nat)) (n := 8) (by omega) (by omega) (by omega)
          refine vr_4 A c l q _ _ _ w hr hw g1 ⟨?_, ?_, c1⟩
          · rw [sigV, c2]; rfl
          · rw [c3]; omega
      · rename_i hk1
        split at h
        · rename_i hk
          rw [hk, e1] at g1
          split at h
          · rename_i hs
            obtain ⟨rfl, rfl, rfl, rfl, rfl⟩ := by simpa using h
            by_cases h4 : l.length < q + 4
            · exact vr_5 A c l q _ _ _ 10 w hr hw g1 (get3_short (a := q + 1) (by omega) (by omega)) (by omega) rfl
            · have g2 := get3 hb (a := q + 1) (by omega)
              have e4 : (((q + 1 : Nat) : Int) + 3) = ((q + 4 : Nat) : Int) := by omega
              rw [e4] at g2
              exact vr_6 A c l q _ _ _ _ _ 10 w hr hw g1 g2 (x3_bd hb _) (get3_short (a := q + 4) (by omega) (by omega)) (by omega) rfl
          · rename_i hs
            have g2 := get3 hb (a := q + 1) (by omega)
            have e4 : (((q + 1 : Nat) : Int) + 3) = ((q + 4 : Nat) : Int) := by omega
            rw [e4] at g2
            have g3 := get3 hb (a := q + 4) (by omega)
            have e7 : (((q + 4 : Nat) : Int) + 3) = (q : Int) + 7 := by omega
            rw [e7] at g3
            split at h
            · rename_i hm
              obtain ⟨rfl, rfl, rfl, rfl, rfl⟩ := by simpa using h
              exact vr_8 A c l q _ _ _ _ _ w hr hw g1 g2 (x3_bd hb _) g3 (x3_bd hb _) hm
            · rename_i hm
              obtain ⟨rfl, rfl, rfl, rfl, rfl⟩ := by simpa using h
              exact vr_7 A c l q _ _ _ _ _ w hr hw g1 g2 (x3_bd hb _) g3 (x3_bd hb _) (by simpa using hm)
        · rename_i hk2
          obtain ⟨rfl, rfl, rfl, rfl, rfl⟩ := by simpa using h
          refine vr_2 A c l q _ _ w hr hw g1 hbd ?_
          simp [mayB, hk1, hk2]

theorem vbytes_v (k a b e0 : Int) (L : List Int) (n : Nat) (w : World) (hw : GW w) (h : bytE k a b = e0 ∧ bytL k a b = L ∧ L.length = n) : Calls Tryd.prog 10 #[.agg #[.int .u8 k, .int .i64 a, .int .i64 b]] w fun e w' => ∃ A c, e = .returned (.tuple #[.slice A n c, .int .i64 e0]) ∧
      w'.ownsRow w.heap.size 5 1 (.slice A n c) n (cel L) ∧ Below w.heap.size w w' := by
  obtain ⟨rfl, rfl, rfl⟩ := h
  unfold bytE bytL
  cases hm : mayB k a b with
  | false =>
    refine (vbytes_f k a b w hm).mono ?_
    rintro e w' ⟨rfl, hb⟩
    exact ⟨none, 0, rfl, World.ownsRow_nil _ _ _ _, hb⟩
  | true =>
    by_cases h1 : k = 1
    · subst h1
      have h0 : b = 0 := by simpa [mayB] using hm
      subst h0
      rw [if_pos rfl, valB, if_pos rfl]
      have e : (1 :: digs a 8).length = 9 := by simp [length_digs]
      rw [if_pos rfl, e]
      exact vbytes_1 a w hw
    · have h2 : k = 2 ∧ okB a b = true := by simpa [mayB, h1] using hm
      obtain ⟨rfl, h2⟩ := h2
      rw [if_pos rfl, valB, if_neg (by decide)]
      have e : (2 :: (digs (a + 1048576) 3 ++ digs (b + 1048576) 3)).length = 7 := by simp [length_digs]
      rw [if_pos rfl, e]
      exact vbytes_2 a b w hw h2
end Go.Proofs.YtndgiehipajghaaDoor
