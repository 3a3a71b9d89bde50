/-
  A number, a line, by definition; what the reference's number answers.
-/
import Derived.Test.YthmfjdafmnmgiaaDoorCrt
namespace Go.Proofs.YthmfjdafmnmgiaaDoor
open Go.RowKit
set_option maxRecDepth 100000
set_option linter.unusedSimpArgs false
set_option linter.unusedVariables false

/-- Texts of bytes are the same just if the bytes are. -/
theorem str_eqb {L M : List Int} (h1 : Byt L) (h2 : Byt M) : ((strOfNums L).toList == (strOfNums M).toList) = decide (L = M) := by
  rw [Lib.strOfNums_toList, Lib.strOfNums_toList]
  have key : ∀ {L M : List Int}, Byt L → Byt M → L.map (fun n => UInt8.ofNat n.toNat) = M.map (fun n => UInt8.ofNat n.toNat) → L = M := by
    intro L
    induction L with
    | nil => intro M _ _ h; cases M with
      | nil => rfl
      | cons y M => simp at h
    | cons x L ih =>
      intro M h1 h2 h
      cases M with
      | nil => simp at h
      | cons y M =>
        simp only [List.map_cons, List.cons.injEq] at h
        have hx := h1 x (by simp)
        have hy := h2 y (by simp)
        have e : x.toNat = y.toNat := by
          have := congrArg UInt8.toNat h.1
          simp only [UInt8.toNat_ofNat'] at this
          omega
        rw [ih (fun z hz => h1 z (by simp [hz])) (fun z hz => h2 z (by simp [hz])) h.2, show x = y by omega]
  by_cases h : L = M
  · subst h; simp
  · rw [decide_eq_false h]
    simp only [beq_eq_false_iff_ne]
    exact fun e => h (key h1 h2 e)
theorem str_num {L : List Int} (hb : Byt L) {s : ByteArray} (hs : strOfNums L = s) (j : Nat) (h : j < s.size) (h' : j < L.length) : ((s[j]'h).toNat : Int) = L[j] := by
  subst hs
  have hx := hb L[j] (List.getElem_mem h')
  have e : (strOfNums L)[j]'h = UInt8.ofNat (L[j]).toNat := by
    have h1 : (strOfNums L)[j]'h = (strOfNums L).data[j]'h := rfl
    rw [h1]
    simp [strOfNums]
  rw [e, UInt8.toNat_ofNat']
  omega
theorem dgT_byt (n : Nat) : Byt (dgT n) := by
  induction n using Nat.strongRecOn with
  | ind n ih =>
    by_cases h : n < 10
    · rw [dgT_lt h]
      intro x hx
      rw [List.mem_singleton.1 hx]
      omega
    · rw [dgT_ge h]
      refine byt_append (ih _ (by omega)) fun x hx => ?_
      rw [List.mem_singleton.1 hx]
      omega
/-- What digits come to; whether each is one. -/
def vlT (S : List Int) : Int := S.foldl (fun n c => 10 * n + (c - 48)) 0
def dgA (S : List Int) : Bool := S.all fun c => decide (48 ≤ c) && decide (c ≤ 57)
/-- A number, out of its digits; none's is -1. -/
def numT (S : List Int) : Int := if S.length < 1 ∨ 4 < S.length then -1 else if dgA S = false then -1 else if dgT (vlT S).toNat = S then vlT S else -1
theorem vlT_snoc (S : List Int) (c : Int) : vlT (S ++ [c]) = 10 * vlT S + (c - 48) := by simp [vlT]
theorem vlT_bd : ∀ S : List Int, dgA S = true → S.length ≤ 4 → 0 ≤ vlT S ∧ vlT S ≤ 9999 ∧ (S.length ≤ 3 → vlT S ≤ 999) := by
  intro S h hl
  simp only [dgA, List.all_eq_true, Bool.and_eq_true, decide_eq_true_eq] at h
  match S, hl with
  | [], _ => decide
  | [a], _ => have h1 := h a (by simp); simp [vlT]; omega
  | [a, b], _ => have h1 := h a (by simp); have h2 := h b (by simp); simp [vlT]; omega
  | [a, b, c], _ => have h1 := h a (by simp); have h2 := h b (by simp); have h3 := h c (by simp); simp [vlT]; omega
  | [a, b, c, d], _ => have h1 := h a (by simp); have h2 := h b (by simp); have h3 := h c (by simp); have h4 := h d (by simp); simp [vlT]; omega
theorem dgA_take {S : List Int} {j : Nat} (h : dgA (S.take j) = true) (hj : j < S.length) (h1 : 48 ≤ S[j]) (h2 : S[j] ≤ 57) : dgA (S.take (j + 1)) = true := by
  rw [dgA, List.take_add_one, List.getElem?_eq_getElem hj, Option.toList_some, List.all_append, ← dgA, h]
  simp [h1, h2]
theorem dgA_no {S : List Int} {j : Nat} (hj : j < S.length) (h : S[j] < 48 ∨ 57 < S[j]) : dgA S = false := by
  refine List.all_eq_false.2 ⟨S[j], List.getElem_mem hj, ?_⟩
  simp
  omega
set_option maxHeartbeats 1000000 in
theorem number_t (S : List Int) (hb : Byt S) (t : ByteArray) (ht : strOfNums S = t) (w : World) : Calls Tryd.prog 52 #[.string t] w fun e w' => e = .returned (.int .i64 (numT S)) ∧ Below w.heap.size w w' := by
  have hsz : t.size = S.length := by rw [← ht, str_size]
  have HT := Lib.hid ht
  by_cases h1 : S.length < 1 ∨ 4 < S.length
  · have HN : Hid (numT S = -1) := by rw [Hid, numT, if_pos h1]
    clear ht
    go_enter Tryd.func52, Tryd.ntmps52
    rcases h1 with h1 | h1
    · go_wp2_with fail
      go_ret
      exact ⟨by rw [HN.out]; rfl, Below.refl _ _⟩
    · go_wp2_with fail
      go_ret
      exact ⟨by rw [HN.out]; rfl, Below.refl _ _⟩
  · have h2 : 1 ≤ S.length := by omega
    have h3 : S.length ≤ 4 := by omega
    have HQ : Hid (∀ n : Nat, ((strOfNums (dgT n)).toList == t.toList) = decide (dgT n = S)) := by
      intro n
      rw [← ht, str_eqb (dgT_byt n) hb]
    have HBY := Lib.hid hb
    clear ht hb
    go_enter Tryd.func52, Tryd.ntmps52
    go_wp2_with fail
    go_loopw [3, 4] (fun a i wr => ∃ j : Nat, j ≤ S.length ∧ i = .int .i64 j ∧ a = .int .i64 (vlT (S.take j)) ∧ Hid (dgA (S.take j) = true) ∧ wr = w) (fun _ i _ => S.length - (intOf i).toNat)
    case atStart => exact ⟨0, by omega, rfl, rfl, rfl, rfl⟩
    case round =>
      obtain ⟨j, hj, rfl, rfl, HD, rfl⟩ := hrel
      have hvb := vlT_bd (S.take j) HD.out (by simp; omega)
      by_cases hlt : j < S.length
      · have hc := str_num HBY.out HT.out j (by omega) hlt
        have hx := HBY.out _ (List.getElem_mem hlt)
        have hv3 := hvb.2.2 (by simp; omega)
        by_cases hd : 48 ≤ S[j] ∧ S[j] ≤ 57
        · have HD2 := Lib.hid (dgA_take HD.out hlt hd.1 hd.2)
          have HV : Hid (vlT (S.take (j + 1)) = 10 * vlT (S.take j) + (S[j] - 48)) := by
            rw [Hid, List.take_add_one, List.getElem?_eq_getElem hlt, Option.toList_some, vlT_snoc]
          go_wp2_with fail
          go_roundw
          case rel => exact ⟨j + 1, by omega, by go_num, by rw [HV.out], HD2, by first | rfl | trivial⟩
          case measure => simp [intOf]; omega
        · have HN : Hid (numT S = -1) := by rw [Hid, numT, if_neg h1, if_pos (dgA_no hlt (by omega))]
          have hd' : S[j] < 48 ∨ (48 ≤ S[j] ∧ 57 < S[j]) := by omega
          clear hd
          rcases hd' with hd | ⟨hd, hd2⟩
          · go_wp2_with fail
            go_ret
            exact ⟨by rw [HN.out]; rfl, Below.refl _ _⟩
          · go_wp2_with fail
            go_ret
            exact ⟨by rw [HN.out]; rfl, Below.refl _ _⟩
      · obtain rfl : j = S.length := by omega
        rw [List.take_length] at HD hvb ⊢
        obtain ⟨k, hk0⟩ : ∃ k : Nat, vlT S = k := ⟨(vlT S).toNat, by omega⟩
        have hkn : (vlT S).toNat = k := by rw [hk0, Int.toNat_natCast]
        have hk : k ≤ 9999 := by omega
        rw [hk0]
        have hq := HQ.out k
        have HNo : Hid (dgT k = S → numT S = k) := fun hs => by rw [numT, if_neg h1, if_neg (by rw [HD.out]; decide), hkn, if_pos hs, hk0]
        have HNn : Hid (¬ dgT k = S → numT S = -1) := fun hs => by rw [numT, if_neg h1, if_neg (by rw [HD.out]; decide), hkn, if_neg hs]
        clear hvb hkn hk0
        go_wp2_with fail
        refine (digits_any k _ hk).mono ?_
        rintro e w4 ⟨rfl, hb4⟩
        have HB4 := Lib.hid hb4
        clear hb4 hk
        by_cases hs : dgT k = S
        · have HN := Lib.hid (HNo.out hs)
          rw [decide_eq_true hs] at hq
          clear hs
          generalize strOfNums (dgT k) = dg at *
          go_wp2_with fail
          go_ret
          exact ⟨by rw [HN.out]; rfl, HB4.out⟩
        · have HN := Lib.hid (HNn.out hs)
          rw [decide_eq_false hs] at hq
          clear hs
          generalize strOfNums (dgT k) = dg at *
          go_wp2_with fail
          go_ret
          exact ⟨by rw [HN.out]; rfl, HB4.out⟩
end Go.Proofs.YthmfjdafmnmgiaaDoor
