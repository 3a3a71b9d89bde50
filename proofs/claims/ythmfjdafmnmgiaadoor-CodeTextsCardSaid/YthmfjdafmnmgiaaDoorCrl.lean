/-
  A line, by definition; what the reference's line answers.
-/
import Derived.Test.YthmfjdafmnmgiaaDoorCrn
import Derived.Test.YthmfjdafmnmgiaaDoorOparses
namespace Go.Proofs.YthmfjdafmnmgiaaDoor
open Go.RowKit
set_option maxRecDepth 100000
set_option linter.unusedSimpArgs false
set_option linter.unusedVariables false

/-- The opcode of a name, and whether there is one. -/
def opP (T : List Int) : Int × Bool := match (List.range 33).find? (fun j => nmI (j : Nat) == T) with
  | some j => (j, true)
  | none => (0, false)
/-- How far a line's first word goes. -/
def spK (S : List Int) : Nat := (S.takeWhile fun c => c != 32).length
/-- A line's instruction, and whether it is one. -/
def lnP (S : List Int) : Ins × Bool :=
  if (opP (S.take (spK S))).2 = false then (((opP (S.take (spK S))).1, 0, 0), false) else
  if wdB (opP (S.take (spK S))).1 = false then (((opP (S.take (spK S))).1, 0, 0), decide (spK S = S.length)) else
  if spK S = S.length then (((opP (S.take (spK S))).1, 0, 0), false) else
  (((opP (S.take (spK S))).1, numT (S.drop (spK S + 1)), 0), opM (opP (S.take (spK S))).1 (numT (S.drop (spK S + 1))) 0)
theorem spK_le (S : List Int) : spK S ≤ S.length := by
  unfold spK
  exact (List.takeWhile_prefix _).length_le
theorem spK_lt {S : List Int} {j : Nat} (h : j < spK S) (h2 : j < S.length) : (S[j] != 32) = true := by
  induction S generalizing j with
  | nil => simp at h2
  | cons c S ih =>
    unfold spK at h ih
    rw [List.takeWhile_cons] at h
    split at h
    · rename_i hc
      cases j with
      | zero => exact hc
      | succ j => exact ih (by simpa using h) (by simpa using h2)
    · simp at h
theorem spK_at {S : List Int} (h2 : spK S < S.length) : (S[spK S] != 32) = false := by
  induction S with
  | nil => simp at h2
  | cons c S ih =>
    cases hc : (c != 32) with
    | true =>
      have e : spK (c :: S) = spK S + 1 := by unfold spK; rw [List.takeWhile_cons, if_pos hc]; rfl
      simp only [e, List.getElem_cons_succ]
      exact ih (by rw [e] at h2; simpa using h2)
    | false =>
      have e : spK (c :: S) = 0 := by unfold spK; rw [List.takeWhile_cons, if_neg (by rw [hc]; decide)]; rfl
      simp only [e, List.getElem_cons_zero]
      exact hc
theorem opS_flag (j : Nat) {T : List Int} (hT : Byt T) : ((opS j).toList == (strOfNums T).toList) = decide (nmI j = T) := by
  rw [← nmI_str, str_eqb (nmI_byt _) hT]
theorem r4prs_v (T : List Int) (hT : Byt T) (t : ByteArray) (ht : strOfNums T = t) (o : Int) (v : Bool) (h : opP T = (o, v)) (w : World) : Calls Tryd.prog 51 #[.string t] w fun e w' => e = .returned (.tuple #[.int .u8 o, .bool v]) ∧ w = w' := by
  subst ht
  unfold opP at h
  split at h
  · rename_i j hj
    injection h with h1 h2
    subst h1 h2
    obtain ⟨h1, h2, h3⟩ := List.find?_range_eq_some.1 hj
    have h2' : j < 33 := by simpa using h2
    refine r4prs_t _ w j h2' (fun i hi => ?_) ?_
    · rw [opS_flag i hT]
      have := h3 i hi
      simp at this
      exact decide_eq_false this
    · rw [opS_flag j hT]
      simp at h1
      exact decide_eq_true h1
  · rename_i hn
    injection h with h1 h2
    subst h1 h2
    refine r4prs_f _ w fun i hi => ?_
    rw [opS_flag i hT]
    have := (List.find?_range_eq_none.1 hn) i hi
    simp at this
    exact decide_eq_false this
theorem str_part (S : List Int) (a b : Nat) : (strOfNums S).extract a b = strOfNums ((S.drop a).take (b - a)) := by
  apply ByteArray.ext
  apply Array.ext'
  simp [strOfNums, List.extract_eq_take_drop, List.map_take, List.map_drop]
theorem below_set3 {w w1 : World} {b B : Nat} (h : Below b w w1) (hB : b ≤ B) (x y z : Value) : Below b w (((w1.setCell ⟨B, 0, none⟩ x).setCell ⟨B, 1, none⟩ y).setCell ⟨B, 2, none⟩ z) := ((h.setCell hB _).setCell hB _).setCell hB _
theorem In.other {w : World} {B : Nat} {k a b : Int} (h : In w B k a b) {p : Addr} (hp : p.block ≠ B) (v : Value) : In (w.setCell p v) B k a b := by
  obtain ⟨h1, h2, h3, h4, h5, h6, h7⟩ := h
  have ne : ∀ i, p ≠ (⟨B, i, none⟩ : Addr) := fun i e => hp (by rw [e])
  refine ⟨by simpa using h1, ?_, ?_, ?_, ?_, ?_, ?_⟩
  · rw [World.cell?_setCell_other _ _ _ _ (ne 0)]; exact h2
  · rw [World.cell?_setCell_other _ _ _ _ (ne 1)]; exact h3
  · rw [World.cell?_setCell_other _ _ _ _ (ne 2)]; exact h4
  · simpa using h5
  · simpa using h6
  · simpa using h7
/-- Some instruction lies at block B. -/
abbrev fE (B : Nat) : Fct := ⟨fun w => ∃ x y z, In w B x y z, fun _ _ h hb => by obtain ⟨x, y, z, h⟩ := h; exact ⟨x, y, z, h.keep hb⟩⟩
theorem In.set012 {w : World} {B : Nat} {k a b : Int} (h : In w B k a b) (k' a' b' : Int) : In (((w.setCell ⟨B, 0, none⟩ (.int .u8 k')).setCell ⟨B, 1, none⟩ (.int .i64 a')).setCell ⟨B, 2, none⟩ (.int .i64 b')) B k' a' b' := by
  obtain ⟨h1, h2, h3, h4, h5, h6, h7⟩ := h
  refine ⟨by simpa using h1, ?_, ?_, ?_, ?_, ?_, ?_⟩ <;> simp [go_sem, h2, h3, h4, h5, h6, h7]
theorem Sx.put {w w' : World} {o a : Int} (h : Sx w w' [fI (w.heap.size + 1) o a 0, fE w.heap.size]) (k' a' b' : Int) :
    Sx w (((w'.setCell ⟨w.heap.size, 0, none⟩ (.int .u8 k')).setCell ⟨w.heap.size, 1, none⟩ (.int .i64 a')).setCell ⟨w.heap.size, 2, none⟩ (.int .i64 b')) [fI (w.heap.size + 1) o a 0, fE w.heap.size] := by
  obtain ⟨h1, h2, ⟨x, y, z, h3⟩, _⟩ := h
  exact ⟨below_set3 h1 (Nat.le_refl _) _ _ _, ((h2.other (by simp) _).other (by simp) _).other (by simp) _, ⟨k', a', b', h3.set012 _ _ _⟩, trivial⟩
set_option maxHeartbeats 2000000 in
theorem line_t (S : List Int) (hb : Byt S) (t : ByteArray) (ht : strOfNums S = t) (hl : S.length ≤ 1000000) (w : World) : Calls Tryd.prog 36 #[.string t] w fun e w' => e = .returned (.tuple #[.agg #[.int .u8 (lnP S).1.1, .int .i64 (lnP S).1.2.1, .int .i64 (lnP S).1.2.2], .bool (lnP S).2]) ∧ Below w.heap.size w w' := by
  have hsz : t.size = S.length := by rw [← ht, str_size]
  have hx1 : strOfNums (S.take (spK S)) = t.extract 0 (spK S) := by rw [← ht, str_part]; simp
  have hx2 : strOfNums (S.drop (spK S + 1)) = t.extract (spK S + 1) S.length := by
    rw [← ht, str_part, List.take_of_length_le (by simp)]
  obtain ⟨k, hk⟩ : ∃ k, spK S = k := ⟨_, rfl⟩
  have hk1 : k ≤ S.length := by rw [← hk]; exact spK_le S
  have hk2 : ∀ j, j < k → ∀ h : j < S.length, (S[j] != 32) = true := fun j hj h => spK_lt (by rw [hk]; exact hj) h
  have hk3 : ∀ h : k < S.length, (S[k] != 32) = false := by
    intro h
    subst hk
    exact spK_at h
  obtain ⟨o, v, ho⟩ : ∃ o v, opP (S.take k) = (o, v) := ⟨_, _, rfl⟩
  have HO := Lib.hid ho
  have HL : Hid (lnP S = if v = false then ((o, 0, 0), false) else if wdB o = false then ((o, 0, 0), decide (k = S.length)) else if k = S.length then ((o, 0, 0), false) else ((o, numT (S.drop (k + 1)), 0), opM o (numT (S.drop (k + 1))) 0)) := by
    rw [Hid, lnP, hk, ho]
  rw [hk] at hx1 hx2
  have HP := fun w => Lib.hid (r4prs_v (S.take k) (byt_take hb _) _ hx1 o v ho w)
  have HN := fun w => Lib.hid (number_t (S.drop (k + 1)) (byt_drop hb _) _ hx2 w)
  have HK2 := Lib.hid hk2
  have HK3 := Lib.hid hk3
  have HT := Lib.hid ht
  have HB := Lib.hid hb
  clear hk2 hk3 ht hb ho hx1 hx2 hk
  have I0 := Lib.hid (In.new w 0 0 0)
  go_enter Tryd.func36, Tryd.ntmps36
  go_wp2_with fail
  go_loop [4] (fun i => ∃ j : Nat, j ≤ k ∧ i = .int .i64 j) (fun i => S.length - (intOf i).toNat)
  case atStart => exact ⟨0, by omega, rfl⟩
  case round =>
    obtain ⟨j, hj, rfl⟩ := hrel
    by_cases hlt : j < k
    · have h1 : j < S.length := by omega
      have hc := str_num HB.out HT.out j (by omega) h1
      have hx := HB.out _ (List.getElem_mem h1)
      have hne := HK2.out j hlt h1
      go_wp2_with fail
      go_round
      case rel => exact ⟨j + 1, by omega, by go_num⟩
      case measure => simp [intOf]; omega
    · obtain rfl : j = k := by omega
      by_cases h1 : j < S.length
      · have hc := str_num HB.out HT.out j (by omega) h1
        have hx := HB.out _ (List.getElem_mem h1)
        have hne := HK3.out h1
        have hne1 : ¬ j = S.length := by omega
        have hne2 : ((j : Int) == (S.length : Int)) = false := by simp; omega
        go_wp2_with fail
        refine (HP _).out.mono ?_
        rintro e w1 ⟨rfl, rfl⟩
        cases v with
        | false =>
          replace HL : Hid (lnP S = ((o, 0, 0), false)) := by have := HL.out; simp at this; exact this
          go_wp2_with fail
          exact bodyPost_ret (v := .tuple #[.agg #[.int .u8 o, .int .i64 0, .int .i64 0], .bool false]) (by simp [results, Tryd.results36, go_sem, hne2]) rfl ⟨by simp [HL.out], below1 new1⟩
        | true =>
          go_wp2_with fail
          refine (wide_any _ _).mono ?_
          rintro e w1 ⟨rfl, rfl⟩
          cases hw : wdB o with
          | false =>
            replace HL : Hid (lnP S = ((o, 0, 0), false)) := by have := HL.out; simp [hw, hne1] at this; exact this
            go_wp2_with fail
            exact bodyPost_ret (v := .tuple #[.agg #[.int .u8 o, .int .i64 0, .int .i64 0], .bool false]) (by simp [results, Tryd.results36, go_sem, hne2]) rfl ⟨by simp [HL.out], below1 new1⟩
          | true =>
            replace HL : Hid (lnP S = ((o, numT (S.drop (j + 1)), 0), opM o (numT (S.drop (j + 1))) 0)) := by have := HL.out; simp [hw, hne1] at this; exact this
            go_wp2_with fail
            refine (HN _).out.mono ?_
            rintro e w3 ⟨rfl, hb3⟩
            generalize numT (S.drop (j + 1)) = a at *
            have I1 := Lib.hid (In.keep (show In ((w.alloc (.cells #[.int .u8 0, .int .i64 0, .int .i64 0] 47)).alloc (.cells #[.int .u8 o, .int .i64 0, .int .i64 0] 47)) (w.heap.size + 1) o 0 0 from by have := In.new (w.alloc (.cells #[.int .u8 0, .int .i64 0, .int .i64 0] 47)) o 0 0; rwa [size1] at this) hb3)
            have I2 := Lib.hid (In.keep (In.keep I0.out (new1 (a := .cells #[.int .u8 o, .int .i64 0, .int .i64 0] 47))) hb3)
            have B3 := Lib.hid (below1 (below1 hb3))
            obtain ⟨m, hm⟩ : ∃ m, opM o a 0 = m := ⟨_, rfl⟩
            rw [hm] at HL
            have HM := Lib.hid hm
            clear hm hb3
            obtain ⟨z0, z1, z2, z3, z4, z5, z6⟩ := I1.out
            go_upto_region 13 with (fail)
            have S6 := Lib.hid (show Sx w (w3.setCell ⟨w.heap.size + 1, 1, none⟩ (.int .i64 a)) [fI (w.heap.size + 1) o a 0, fE w.heap.size] from ⟨B3.out.setCell (by simp) _, In.set1 I1.out a, ⟨0, 0, 0, I2.out.other (by simp) _⟩, trivial⟩)
            clear z0 z1 z2 z3 z4 z5 z6 I1 I2 B3 I0
            generalize w3.setCell ⟨w.heap.size + 1, 1, none⟩ (.int .i64 a) = w5 at *
            refine wp_region_held_drew (S := fun w' => Hid (Sx w w' [fI (w.heap.size + 1) o a 0, fE w.heap.size])) (by kernel_rfl) (Hsx.drew S6) (fun hHeld => ?_)
            refine wpAnyH_take (i := 0) (v := ?_) rfl (by kernel_rfl) (by kernel_rfl) (by kernel_rfl) (fun _ _ _ h => h) (Or.inl ⟨by rfl, ?_⟩) (by assumption) ?_
            rotate_left 1
            · intro w hSw; (try dsimp only at hSw); obtain ⟨-, ⟨s0, s1, s2, s3, s4, s5, s6⟩, -⟩ := hSw.out; go_simp; try with_reducible rfl
            try simp only [Act.put, List.getElem_toArray, List.getElem_cons_zero, List.getElem_cons_succ, List.setIfInBounds_toArray, List.set_cons_zero, List.set_cons_succ]
            refine wpAnyH_take (i := 1) (v := ?_) rfl (by kernel_rfl) (by kernel_rfl) (by kernel_rfl) (fun _ _ _ h => h) (Or.inl ⟨by rfl, ?_⟩) (by assumption) ?_
            rotate_left 1
            · intro w hSw; (try dsimp only at hSw); obtain ⟨-, ⟨s0, s1, s2, s3, s4, s5, s6⟩, -⟩ := hSw.out; go_simp; try with_reducible rfl
            try simp only [Act.put, List.getElem_toArray, List.getElem_cons_zero, List.getElem_cons_succ, List.setIfInBounds_toArray, List.set_cons_zero, List.set_cons_succ]
            refine wpAnyH_ready (rs := [2]) (by kernel_rfl) (by simp) ?_
            refine AllReadyH.cons rfl (fun K hK => ?_) AllReadyH.nil
            go_simp
            refine (r4may_v o a 0 m _ HM.out).mono ?_
            rintro e w7 ⟨rfl, hb⟩
            go_wp2_with fail
            refine hK.out _ _ (Hsx.call hb hHeld) (fun hHeld => ?_)
            clear hK K
            try simp only [Act.put, List.getElem_toArray, List.getElem_cons_zero, List.getElem_cons_succ, List.setIfInBounds_toArray, List.set_cons_zero, List.set_cons_succ]
            refine wpAnyH_ready (rs := [3]) (by kernel_rfl) (by simp) ?_
            refine AllReadyH.cons rfl (fun K hK => ?_) AllReadyH.nil
            obtain ⟨-, -, ⟨q0, q1, q2, y0, y1, y2, y3, y4, y5, y6⟩, -⟩ := hHeld.out
            go_simp
            refine hK.out _ _ (Lib.hid (Sx.put hHeld.out o a 0)) (fun hHeld => ?_)
            clear hK K
            try simp only [Act.put, List.getElem_toArray, List.getElem_cons_zero, List.getElem_cons_succ, List.setIfInBounds_toArray, List.set_cons_zero, List.set_cons_succ]
            refine wpAnyH_take (i := 4) (v := ?_) rfl (by kernel_rfl) (by kernel_rfl) (by kernel_rfl) (fun _ _ _ h => h) (Or.inl ⟨by rfl, ?_⟩) (by assumption) ?_
            rotate_left 1
            · intro w _; go_simp; try with_reducible rfl
            try simp only [Act.put, List.getElem_toArray, List.getElem_cons_zero, List.getElem_cons_succ, List.setIfInBounds_toArray, List.set_cons_zero, List.set_cons_succ]
            refine wpAnyH_done (by kernel_rfl) ?_ _
            go_wp2_with fail
            exact bodyPost_ret (v := .tuple #[.agg #[.int .u8 o, .int .i64 a, .int .i64 0], .bool m]) (by simp [results, Tryd.results36, go_sem, y0, y1, y2, y3]) rfl ⟨by simp [HL.out], hHeld.out.1⟩
      · obtain rfl : j = S.length := by omega
        have hne2 : ((S.length : Int) == (S.length : Int)) = true := by simp
        go_wp2_with fail
        refine (HP _).out.mono ?_
        rintro e w1 ⟨rfl, rfl⟩
        cases v with
        | false =>
          replace HL : Hid (lnP S = ((o, 0, 0), false)) := by have := HL.out; simp at this; exact this
          go_wp2_with fail
          exact bodyPost_ret (v := .tuple #[.agg #[.int .u8 o, .int .i64 0, .int .i64 0], .bool false]) (by simp [results, Tryd.results36, go_sem, hne2]) rfl ⟨by simp [HL.out], below1 new1⟩
        | true =>
          go_wp2_with fail
          refine (wide_any _ _).mono ?_
          rintro e w1 ⟨rfl, rfl⟩
          cases hw : wdB o with
          | false =>
            replace HL : Hid (lnP S = ((o, 0, 0), true)) := by have := HL.out; simp [hw] at this; exact this
            go_wp2_with fail
            exact bodyPost_ret (v := .tuple #[.agg #[.int .u8 o, .int .i64 0, .int .i64 0], .bool true]) (by simp [results, Tryd.results36, go_sem, hne2]) rfl ⟨by simp [HL.out], below1 new1⟩
          | true =>
            replace HL : Hid (lnP S = ((o, 0, 0), false)) := by have := HL.out; simp [hw] at this; exact this
            go_wp2_with fail
            exact bodyPost_ret (v := .tuple #[.agg #[.int .u8 o, .int .i64 0, .int .i64 0], .bool false]) (by simp [results, Tryd.results36, go_sem, hne2]) rfl ⟨by simp [HL.out], below1 new1⟩
end Go.Proofs.YthmfjdafmnmgiaaDoor
