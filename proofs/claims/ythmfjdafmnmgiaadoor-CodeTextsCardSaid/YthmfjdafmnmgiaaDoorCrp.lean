/-
  The code of a text, by definition; what the reference's Parse answers.
-/
import Derived.Test.YthmfjdafmnmgiaaDoorCrl
namespace Go.Proofs.YthmfjdafmnmgiaaDoor
open Go.RowKit
set_option maxRecDepth 100000
set_option linter.unusedSimpArgs false
set_option linter.unusedVariables false

/-- The rest of a text, behind a line's beginning and the instructions of the lines ahead. -/
def psL : List Int → List Int → List Ins → Int × List Ins
  | [], cur, K => if cur = [] ∧ K ≠ [] then (0, K) else (40, [])
  | c :: rest, cur, K => if (c != 10) = true then psL rest (cur ++ [c]) K else if (lnP cur).2 = true ∧ K.length < 200 then psL rest [] (K ++ [(lnP cur).1]) else (40, [])
def psC (S : List Int) : Int × List Ins := psL S [] []
theorem psL_end (cur : List Int) (K : List Ins) : psL [] cur K = if cur = [] ∧ K ≠ [] then (0, K) else (40, []) := by rw [psL]
theorem psL_in {S : List Int} {j : Nat} (h : j < S.length) (hc : (S[j] != 10) = true) (cur : List Int) (K : List Ins) : psL (S.drop j) cur K = psL (S.drop (j + 1)) (cur ++ [S[j]]) K := by
  rw [List.drop_eq_getElem_cons h, psL, if_pos hc]
theorem psL_line {S : List Int} {j : Nat} (h : j < S.length) (hc : (S[j] != 10) = false) (cur : List Int) (K : List Ins) : psL (S.drop j) cur K = if (lnP cur).2 = true ∧ K.length < 200 then psL (S.drop (j + 1)) [] (K ++ [(lnP cur).1]) else (40, []) := by
  rw [List.drop_eq_getElem_cons h, psL, if_neg (by rw [hc]; decide)]
theorem opP_bd (T : List Int) : 0 ≤ (opP T).1 ∧ (opP T).1 < 33 := by
  unfold opP
  split
  · rename_i j hj
    have := (List.find?_range_eq_some.1 hj).2.1
    simp at this
    exact ⟨by simp only; omega, by simp only; omega⟩
  · exact ⟨by decide, by decide⟩
theorem numT_bd (S : List Int) : -1 ≤ numT S ∧ numT S ≤ 9999 := by
  unfold numT
  split
  · decide
  · split
    · decide
    · rename_i h1 h2
      split
      · have := vlT_bd S (by simpa using h2) (by omega)
        omega
      · decide
theorem lnP_ok (S : List Int) : InOk (lnP S).1 := by
  have h1 := opP_bd (S.take (spK S))
  have h2 := numT_bd (S.drop (spK S + 1))
  unfold lnP
  split
  · unfold InOk; simp only; omega
  · split
    · unfold InOk; simp only; omega
    · split
      · unfold InOk; simp only; omega
      · unfold InOk; simp only; omega
theorem cur_more {S : List Int} {q j : Nat} (hq : q ≤ j) (h : j < S.length) : (S.drop q).take (j - q) ++ [S[j]] = (S.drop q).take (j + 1 - q) := by
  rw [show j + 1 - q = (j - q) + 1 by omega, List.take_add_one, List.getElem?_drop, show q + (j - q) = j by omega, List.getElem?_eq_getElem h]
  rfl

set_option maxRecDepth 100000 in
set_option maxHeartbeats 4000000 in
theorem r5parse_any (S : List Int) (hb : Byt S) (t : ByteArray) (ht : strOfNums S = t) (hl : S.length ≤ 1000000) (w : World) : Calls Tryd.prog 18 #[.string t] w fun e w' => ∃ A c, e = .returned (.tuple #[.slice A (psC S).2.length c, .int .i64 (psC S).1]) ∧
    w'.ownsRow w.heap.size 47 3 (.slice A (psC S).2.length c) (psC S).2.length (cei (psC S).2) ∧ Below w.heap.size w w' := by
  have hsz : t.size = S.length := by rw [← ht, str_size]
  obtain ⟨R, hR⟩ : ∃ R, psC S = R := ⟨_, rfl⟩
  rw [hR]
  have HR : Hid (R = psL (S.drop 0) ((S.drop 0).take (0 - 0)) []) := by rw [Hid, ← hR]; rfl
  have HX : Hid (∀ a b, strOfNums ((S.drop a).take (b - a)) = t.extract a b) := fun a b => by rw [← ht, str_part]
  have HT := Lib.hid ht
  have HB := Lib.hid hb
  clear ht hb hR
  go_enter Tryd.func18, Tryd.ntmps18
  go_wp2_with fail
  go_loopw [4, 5, 6, 7, 8] (fun o f i _ _ wr => ∃ (j q : Nat) (K : List Ins) (A : Option Addr) (c n : Nat), q ≤ j ∧ j ≤ S.length ∧ i = .int .i64 j ∧ f = .int .i64 q ∧ o = .slice A n c ∧ n ≤ 200 ∧ Hid (R = psL (S.drop j) ((S.drop q).take (j - q)) K ∧ K.length = n ∧ ∀ x ∈ K, InOk x) ∧ Hid (wr.ownsRow w.heap.size 47 3 (.slice A n c) n (cei K)) ∧ Hid (Below w.heap.size w wr)) (fun _ _ i _ _ _ => S.length - (intOf i).toNat)
  case atStart => exact ⟨0, 0, [], none, 0, 0, by omega, by omega, rfl, rfl, rfl, by omega, Lib.hid ⟨HR.out, rfl, fun x hx => (by cases hx)⟩, Lib.hid (World.ownsRow_nil _ _ _ _), Lib.hid (Below.refl _ _)⟩
  case round =>
    obtain ⟨j, q, K, A, c, n, hqj, hj, rfl, rfl, rfl, hn, HI, HO, HW⟩ := hrel
    clear HR
    by_cases h1 : j < S.length
    · have hc := str_num HB.out HT.out j (by omega) h1
      have hx := HB.out _ (List.getElem_mem h1)
      cases hne : (S[j] != 10) with
      | true =>
        have HN : Hid (R = psL (S.drop (j + 1)) ((S.drop q).take (j + 1 - q)) K) := by rw [Hid, HI.out.1, psL_in h1 hne, cur_more hqj h1]
        go_wp2_with fail
        go_roundw
        case rel => exact ⟨j + 1, q, K, A, c, n, by omega, by omega, by go_num, rfl, rfl, hn, Lib.hid ⟨HN.out, HI.out.2⟩, HO, HW⟩
        case measure => simp [intOf]; omega
      | false =>
        have hlen : ((S.drop q).take (j - q)).length ≤ 1000000 := by simp; omega
        have HL := fun w => Lib.hid (line_t ((S.drop q).take (j - q)) (byt_take (byt_drop HB.out _) _) _ (HX.out q j) hlen w)
        have HK := Lib.hid (lnP_ok ((S.drop q).take (j - q)))
        have HN : Hid (R = if (lnP ((S.drop q).take (j - q))).2 = true ∧ n < 200 then psL (S.drop (j + 1)) [] (K ++ [(lnP ((S.drop q).take (j - q))).1]) else (40, [])) := by rw [Hid, HI.out.1, psL_line h1 hne, HI.out.2.1]
        clear hlen
        generalize lnP ((S.drop q).take (j - q)) = y at *
        obtain ⟨⟨o, a, b⟩, v⟩ := y
        simp only at HL HK HN
        go_wp2_with fail
        refine (HL _).out.mono ?_
        rintro e w3 ⟨rfl, hb3⟩
        have I3 := Lib.hid (In.new w3 o a b)
        have HW3 := Lib.hid (HW.out.trans (hb3.mono HW.out.size))
        have HW4 := Lib.hid (HW3.out.alloc HW3.out.size (.cells #[.int .u8 o, .int .i64 a, .int .i64 b] 47))
        have HO4 := Lib.hid (own_below (own_below HO.out hb3 (Nat.le_refl _)) (new1 (a := .cells #[.int .u8 o, .int .i64 a, .int .i64 b] 47)) (Nat.le_refl _))
        clear hb3
        cases v with
        | false =>
          replace HN : Hid (R = (40, [])) := Lib.hid (by have := HN.out; simpa using this)
          go_wp2_with fail
          go_ret2
          obtain rfl := HN.out
          exact ⟨none, 0, rfl, World.ownsRow_nil _ _ _ _, HW4.out⟩
        | true =>
          by_cases hn2 : n < 200
          · replace HN : Hid (R = psL (S.drop (j + 1)) [] (K ++ [(o, a, b)])) := Lib.hid (by have := HN.out; simpa [hn2] using this)
            have hr5 := ri_new (w3.alloc (.cells #[.int .u8 o, .int .i64 a, .int .i64 b] 47)) (o, a, b) HK.out
            rw [size1] at hr5
            have HR5 := Lib.hid hr5
            have HO5 := Lib.hid (own_below HO4.out (new1 (a := (.cells #[.int .u8 o, .int .i64 a, .int .i64 b] 47))) (Nat.le_refl _))
            have HW5 := Lib.hid (HW4.out.alloc HW4.out.size (.cells #[.int .u8 o, .int .i64 a, .int .i64 b] 47))
            clear hr5
            go_wp2_with (at_builtin; refine wpList_append_ri _ rfl _ _ rfl w.heap.size _ n K rfl HO5.out _ 1 1 [(o, a, b)] rfl HR5.out rfl (by omega) HW5.out.size ?_)
            intro A7 c7 w7 ho7 hb7
            have HO7 := Lib.hid ho7
            have HW7 := Lib.hid (HW5.out.trans hb7)
            have HN2 : Hid (R = psL (S.drop (j + 1)) ((S.drop (j + 1)).take (j + 1 - (j + 1))) (K ++ [(o, a, b)])) := by rw [Hid, HN.out, Nat.sub_self, List.take_zero]
            have HK2 : Hid ((K ++ [(o, a, b)]).length = n + 1 ∧ ∀ x ∈ K ++ [(o, a, b)], InOk x) := by
              refine ⟨by rw [List.length_append, HI.out.2.1]; rfl, fun u hu => ?_⟩
              rcases List.mem_append.1 hu with hu | hu
              · exact HI.out.2.2 u hu
              · rw [List.mem_singleton.1 hu]; exact HK.out
            clear ho7 hb7
            go_wp2_with fail
            go_roundw
            case rel => exact ⟨j + 1, j + 1, _, A7, c7, n + 1, by omega, by omega, by go_num, by go_num, rfl, by omega, Lib.hid ⟨HN2.out, HK2.out⟩, HO7, HW7⟩
            case measure => simp [intOf]; omega
          · replace HN : Hid (R = (40, [])) := Lib.hid (by have := HN.out; simpa [hn2] using this)
            go_wp2_with fail
            go_ret2
            obtain rfl := HN.out
            exact ⟨none, 0, rfl, World.ownsRow_nil _ _ _ _, HW4.out⟩
    · obtain rfl : j = S.length := by omega
      have hcur : (S.drop q).take (S.length - q) = S.drop q := List.take_of_length_le (by simp)
      have HE : Hid (R = if S.drop q = [] ∧ K ≠ [] then (0, K) else (40, [])) := by rw [Hid, HI.out.1, List.drop_length, psL_end, hcur]
      clear hcur
      by_cases hq : q < S.length
      · have HN : Hid (R = (40, [])) := by
          rw [Hid, HE.out, if_neg]
          intro h
          have := List.drop_eq_nil_iff.1 h.1
          omega
        go_wp2_with fail
        go_ret2
        obtain rfl := HN.out
        exact ⟨none, 0, rfl, World.ownsRow_nil _ _ _ _, HW.out⟩
      · obtain rfl : q = S.length := by omega
        by_cases hn0 : n = 0
        · subst hn0
          have HN : Hid (R = (40, [])) := by
            rw [Hid, HE.out, if_neg]
            intro h
            exact h.2 (List.eq_nil_of_length_eq_zero HI.out.2.1)
          go_wp2_with fail
          go_ret2
          obtain rfl := HN.out
          exact ⟨none, 0, rfl, World.ownsRow_nil _ _ _ _, HW.out⟩
        · have HN : Hid (R = (0, K)) := by
            rw [Hid, HE.out, if_pos]
            refine ⟨List.drop_length, fun h => ?_⟩
            rw [h] at HI
            exact hn0 HI.out.2.1.symm
          have HKn := Lib.hid HI.out.2.1
          go_wp2_with fail
          go_ret2
          obtain rfl := HN.out
          exact ⟨A, c, by simp [HKn.out], by simp only [HKn.out]; exact HO.out, HW.out⟩
end Go.Proofs.YthmfjdafmnmgiaaDoor
