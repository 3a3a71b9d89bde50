/-
  The law's push and drop (of layer 10).
-/
import Derived.Test.YtplgmdbocmfbcaaLta
import Derived.Test.YtplgmdbocmfbcaaLt
namespace Go.Proofs.Ytplgmdbocmfbcaa
open Go.RowKit
set_option maxRecDepth 100000
set_option linter.unusedSimpArgs false
set_option linter.unusedVariables false

theorem push10_v (A : Option Addr) (c n : Nat) (R : List Int) (k : Int) (w : World) (hr : Rd w A c R) (hn : R.length = n) (hb : n ≤ 1000000) (hk : 0 ≤ k ∧ k < 256) : Calls Try.prog 24 #[.slice A n c, .int .u8 k] w fun e w' => ∃ A' c', e = .returned (.slice A' (n + 1) c') ∧ w'.ownsRow w.heap.size 5 1 (.slice A' (n + 1) c') (n + 1) (cel (R ++ [k])) ∧ Below w.heap.size w w' := by
  obtain ⟨i0, hi, hz0, hz1, hz2⟩ := info_parts Try.info5
  have HR : Hid (Rd (w.alloc (.cells #[] 5)) A c R) := Lib.hid (hr.keep new1)
  have HO : Hid ((w.alloc (.cells #[] 5)).ownsRow w.heap.size 5 1 (.slice (some ⟨w.heap.size, 0, none⟩) 0 0) 0 (cel [])) := Lib.hid (World.ownsRow_lit w #[] 0 (Nat.le_refl _) (Nat.zero_le _) rfl)
  have HB0 : Hid (Below w.heap.size w (w.alloc (.cells #[] 5))) := Lib.hid new1
  clear hr
  go_enter Try.func24, Try.ntmps24
  go_wp2_with (at_builtin; refine wpList_append_rd _ rfl (.tmp 5) (.tmp 6) 33 rfl w.heap.size 5 i0 Try.underlying33 hi hz0 hz1 hz2 _ 0 [] rfl HO.out A n c R rfl HR.out hn.symm (by omega) (by simp) ?_)
  intro A1 c1 w1 ho1 _ hb1 _
  have HO1 : Hid (w1.ownsRow w.heap.size 5 1 (.slice A1 n c1) n (cel R)) := Lib.hid (by simpa using ho1)
  have HB1 := Lib.hid (HB0.out.trans hb1)
  have hsz := HB1.out.size
  clear ho1 hb1 HR HO HB0
  have HRK : Hid (Rd (w1.alloc (.cells #[.int .u8 k] 5)) (some ⟨w1.heap.size, 0, none⟩) 1 [k]) := Lib.hid ⟨fun x hx => by rw [List.mem_singleton.1 hx]; exact hk, Nat.le_refl _, by unfold maxLen; omega, .inr ⟨_, rfl, fun i x hx => by
    match i, hx with
    | 0, hx =>
      simp at hx
      subst hx
      simp [go_sem, Addr.add]⟩⟩
  go_wp2_with (at_builtin; refine wpList_append_rd _ rfl (.tmp 7) (.tmp 9) 33 rfl w.heap.size 5 i0 Try.underlying33 hi hz0 hz1 hz2 _ n R rfl (HO1.out.alloc _) _ 1 1 [k] rfl HRK.out rfl (by omega) (by simp; omega) ?_)
  intro A2 c2 w2 ho2 _ hb2 _
  have HO2 := Lib.hid ho2
  have HB2 := Lib.hid (HB1.out.trans ((new1.mono hsz).trans hb2))
  clear ho2 hb2
  go_wp2_with fail
  go_ret
  exact ⟨A2, c2, rfl, HO2.out, HB2.out⟩
/-- What drop tells. -/
def Dr10 (w w' : World) (T : Option (List Int)) (e : Ending) : Prop := ∃ A' c', e = .returned (.tuple #[.slice A' (T.getD []).length c', .bool T.isSome]) ∧ Rd w' A' c' (T.getD []) ∧ Below w.heap.size w w'
theorem Dr10.no {w w' : World} {T : Option (List Int)} (hT : T = none) (hb : Below w.heap.size w w') : Dr10 w w' T (.returned (.tuple #[.slice none 0 0, .bool false])) := by
  subst hT
  exact ⟨none, 0, rfl, Rd.none_ _, hb⟩
set_option maxHeartbeats 4000000 in
theorem drop10_v (A A2 A3 : Option Addr) (c n c2 m c3 q : Nat) (R K G : List Int) (w : World) (hr : Rd w A c R) (hn : R.length = n) (hb : n ≤ 1000000) (hk : Rd w A2 c2 K) (hm : K.length = m) (hg : Rd w A3 c3 G) (hq : G.length = q) (hqb : q ≤ 1000) :
    Calls Try.prog 25 #[.slice A n c, .slice A2 m c2, .slice A3 q c3] w fun e w' => Dr10 w w' (dp10 R K G) e := by
  obtain ⟨i0, hi, hz0, hz1, hz2⟩ := info_parts Try.info5
  have hm9 : m ≤ 9223372036854775807 := by rw [← hm]; exact hk.len
  have HR := Lib.hid hr
  have HK := Lib.hid hk
  have HG := Lib.hid hg
  have HN := Lib.hid hn
  have HM := Lib.hid hm
  have HQ := Lib.hid hq
  obtain ⟨T, hT⟩ : ∃ T, dp10 R K G = T := ⟨_, rfl⟩
  have HT := Lib.hid hT
  rw [hT]
  clear hr hk hg hn hm hq hT
  go_enter Try.func25, Try.ntmps25
  by_cases h1 : n < m
  · have HE : Hid (T = none) := Lib.hid (by rw [← HT.out, dp10, if_pos (by rw [HN.out, HM.out]; exact h1)])
    have hneg : (n : Int) - m < 0 := by omega
    go_wp2_with fail
    go_ret2
    exact Dr10.no HE.out (Below.refl _ _)
  have hnneg : ¬ (n : Int) - m < 0 := by omega
  obtain ⟨l, hl⟩ : ∃ l : Nat, (n : Int) - m = l := ⟨n - m, by omega⟩
  have hl2 : n - m = l := by omega
  go_wp2_with fail
  go_loopw [9] (fun iv wq => ∃ i : Nat, i ≤ m ∧ iv = .int .i64 i ∧ Hid ((List.range i).all (fun j => K[j]?.getD 0 == 0 || K[j]?.getD 0 == R[l + j]?.getD 0) = true) ∧ Hid (Below w.heap.size w wq)) (fun iv _ => m - (intOf iv).toNat)
  case atStart => exact ⟨0, by omega, rfl, Lib.hid rfl, Lib.hid (Below.refl _ _)⟩
  case round =>
    obtain ⟨i, him, rfl, HI, HB⟩ := hrel
    by_cases h2 : i < m
    · obtain ⟨a2, rfl, y2⟩ := (HK.out.keep HB.out).at_ (i := i) (by rw [HM.out]; exact h2)
      obtain ⟨j, hj⟩ : ∃ j : Nat, (l : Int) + i = j := ⟨l + i, by omega⟩
      have hj2 : l + i = j := by omega
      have hjn : j < n := by omega
      obtain ⟨a1, rfl, y1⟩ := (HR.out.keep HB.out).at_ (i := j) (by rw [HN.out]; exact hjn)
      obtain ⟨k, hkk⟩ : ∃ k, K[i]?.getD 0 = k := ⟨_, rfl⟩
      obtain ⟨r, hrr⟩ : ∃ r, R[j]?.getD 0 = r := ⟨_, rfl⟩
      have HKK := Lib.hid hkk
      have HRR := Lib.hid hrr
      rw [hkk] at y2
      rw [hrr] at y1
      have HJ := Lib.hid hj2
      clear hkk hrr hj2
      cases hv : (k == 0 || k == r) with
      | true =>
        have HI2 : Hid ((List.range (i + 1)).all (fun j => K[j]?.getD 0 == 0 || K[j]?.getD 0 == R[l + j]?.getD 0) = true) := Lib.hid (by
          rw [List.range_succ, List.all_append, HI.out]
          simp only [List.all_cons, List.all_nil, HJ.out, HKK.out, HRR.out, hv]
          rfl)
        by_cases hk0 : k = 0
        · subst hk0
          clear hv
          go_wp2_with fail
          go_quiet (fail)
          go_wp2
          go_roundw
          case rel => exact ⟨i + 1, by omega, by go_num, HI2, Lib.hid (below_draws HB.out _)⟩
          case measure => simp [intOf]; omega
        · have hkr : k = r := by simpa [hk0] using hv
          subst hkr
          have hkb : (k != 0) = true := by simpa using hk0
          clear hv
          go_wp2_with fail
          go_quiet (fail)
          go_wp2
          go_roundw
          case rel => exact ⟨i + 1, by omega, by go_num, HI2, Lib.hid (below_draws HB.out _)⟩
          case measure => simp [intOf]; omega
      | false =>
        have hk0 : ¬ k = 0 := by rintro rfl; simp at hv
        have hkr : ¬ k = r := by rintro rfl; simp at hv
        have HE : Hid (T = none) := Lib.hid (by
          rw [← HT.out, dp10, if_neg (by rw [HN.out, HM.out]; exact h1), if_neg]
          rw [Bool.not_eq_true, List.all_eq_false]
          refine ⟨i, List.mem_range.2 (by rw [HM.out]; exact h2), ?_⟩
          rw [HN.out, HM.out, hl2, HJ.out, HKK.out, HRR.out, hv]
          decide)
        have hkb : (k != 0) = true := by simpa using hk0
        have hkb2 : (k != r) = true := by simpa using hkr
        clear hv
        go_wp2_with fail
        go_quiet (fail)
        go_wp2
        go_ret2
        exact Dr10.no HE.out (below_draws HB.out _)
    · obtain rfl : m = i := by omega
      have HE : Hid (T = some (R.take l ++ G)) := Lib.hid (by
        rw [← HT.out, dp10, if_neg (by rw [HN.out, HM.out]; exact h1), if_pos (by rw [HN.out, HM.out, hl2]; exact HI.out), HN.out, HM.out, hl2])
      rename World => w0
      have HRT : Hid (Rd (w0.alloc (.cells #[] 5)) A c (R.take l)) := Lib.hid (((HR.out.keep HB.out).pre l).keep new1)
      have HO : Hid ((w0.alloc (.cells #[] 5)).ownsRow w0.heap.size 5 1 (.slice (some ⟨w0.heap.size, 0, none⟩) 0 0) 0 (cel [])) := Lib.hid (World.ownsRow_lit w0 #[] 0 (Nat.le_refl _) (Nat.zero_le _) rfl)
      have HB0 : Hid (Below w.heap.size w (w0.alloc (.cells #[] 5))) := Lib.hid (below_on HB.out new1)
      have HGB := Lib.hid ((HG.out.keep HB.out).keep (new1 (a := .cells #[] 5)))
      have hrc : n ≤ c := by rw [← HN.out]; exact HR.out.le
      have hrl : (R.take l).length = l := by rw [List.length_take, HN.out]; omega
      have HRL := Lib.hid hrl
      clear hrl
      have hl1 : l ≤ n := by omega
      have hl9 : (0 : Int) ≤ l := by omega
      cases A with
      | none =>
        have h0 : n = 0 ∧ c = 0 := by
          obtain ⟨-, k1, -, k2⟩ := HR.out
          rw [HN.out] at k1
          rcases k2 with k2 | ⟨ad, k2, -⟩
          · omega
          · cases k2
        obtain ⟨rfl, rfl⟩ := h0
        obtain rfl : l = 0 := by omega
        go_wp2_with (at_builtin; refine wpList_append_rd _ rfl (.tmp 41) (.tmp 44) 33 rfl w0.heap.size 5 i0 Try.underlying33 hi hz0 hz1 hz2 _ 0 [] rfl HO.out none 0 0 (R.take 0) rfl HRT.out HRL.out.symm (by omega) (by simp) ?_)
        intro A1 c1 w1 ho1 _ hb1 _
        have HO1 : Hid (w1.ownsRow w0.heap.size 5 1 (.slice A1 0 c1) 0 (cel (R.take 0))) := Lib.hid (by simpa using ho1)
        have HX1 : Hid (Below w0.heap.size w0 w1) := Lib.hid (new1.trans hb1)
        have HG1 := Lib.hid ((HG.out.keep HB.out).keep HX1.out)
        have hbt : Byt (R.take 0 ++ G) := fun x hx => (List.mem_append.1 hx).elim (fun h => HRT.out.byt x h) (fun h => HG.out.byt x h)
        have HBT := Lib.hid hbt
        clear ho1 hb1 HRT HO HB0 HGB hbt
        go_wp2_with (at_builtin; refine wpList_append_rd _ rfl (.tmp 45) (.tmp 46) 33 rfl w0.heap.size 5 i0 Try.underlying33 hi hz0 hz1 hz2 _ 0 (R.take 0) rfl HO1.out A3 q c3 G rfl HG1.out HQ.out.symm (by omega) HX1.out.size ?_)
        intro A4 c4 w2 ho2 _ hb2 _
        have HR4 : Hid (Rd w2 A4 c4 (R.take 0 ++ G)) := Lib.hid (own_rd (by simpa using ho2) HBT.out)
        have HB4 : Hid (Below w.heap.size w w2) := Lib.hid (below_on HB.out (HX1.out.trans hb2))
        clear ho2 hb2
        go_wp2_with fail
        go_ret2
        exact ⟨A4, c4, by rw [HE.out]; simp [HRL.out, HQ.out], by rw [HE.out]; exact HR4.out, HB4.out⟩
      | some ad =>
        go_wp2_with (at_builtin; refine wpList_append_rd _ rfl (.tmp 41) (.tmp 44) 33 rfl w0.heap.size 5 i0 Try.underlying33 hi hz0 hz1 hz2 _ 0 [] rfl HO.out (some ad) l c (R.take l) rfl HRT.out HRL.out.symm (by omega) (by simp) ?_)
        intro A1 c1 w1 ho1 _ hb1 _
        have HO1 : Hid (w1.ownsRow w0.heap.size 5 1 (.slice A1 l c1) l (cel (R.take l))) := Lib.hid (by simpa using ho1)
        have HX1 : Hid (Below w0.heap.size w0 w1) := Lib.hid (new1.trans hb1)
        have HG1 := Lib.hid ((HG.out.keep HB.out).keep HX1.out)
        have hbt : Byt (R.take l ++ G) := fun x hx => (List.mem_append.1 hx).elim (fun h => HRT.out.byt x h) (fun h => HG.out.byt x h)
        have HBT := Lib.hid hbt
        clear ho1 hb1 HRT HO HB0 HGB hbt
        go_wp2_with (at_builtin; refine wpList_append_rd _ rfl (.tmp 45) (.tmp 46) 33 rfl w0.heap.size 5 i0 Try.underlying33 hi hz0 hz1 hz2 _ l (R.take l) rfl HO1.out A3 q c3 G rfl HG1.out HQ.out.symm (by omega) HX1.out.size ?_)
        intro A4 c4 w2 ho2 _ hb2 _
        have HR4 : Hid (Rd w2 A4 c4 (R.take l ++ G)) := Lib.hid (own_rd (by simpa using ho2) HBT.out)
        have HB4 : Hid (Below w.heap.size w w2) := Lib.hid (below_on HB.out (HX1.out.trans hb2))
        clear ho2 hb2
        go_wp2_with fail
        go_ret2
        exact ⟨A4, c4, by rw [HE.out]; simp [HRL.out, HQ.out], by rw [HE.out]; exact HR4.out, HB4.out⟩
end Go.Proofs.Ytplgmdbocmfbcaa
