/-
  The reference's Times and Ways.
-/
import Derived.Test.YtfchdggefedgoaaFlo
import Derived.Test.YtfchdggefedgoaaFi
namespace Go.Proofs.Ytfchdggefedgoaa
open Go.RowKit
set_option maxRecDepth 100000
set_option linter.unusedSimpArgs false
set_option linter.unusedVariables false

set_option maxHeartbeats 8000000 in
theorem r9times_v (A : Option Addr) (c m : Nat) (L : List Ins) (w : World) (hr : Ri w A c L) (hm : L.length = m) :
    Calls Try.prog 10 #[.slice A m c] w fun r w' => ∃ A' c', r = .returned (.tuple #[.slice A' (flT9 L).length c', .int .i64 (flE9 L)]) ∧ w'.ownsRow w.heap.size 3 1 (.slice A' (flT9 L).length c') (flT9 L).length (ci9 (flT9 L)) ∧ Below w.heap.size w w' := by
  have HLm := Lib.hid hm
  have HR := Lib.hid hr
  have HLO := Lib.hid (r9loops_v A c m L w hr hm)
  clear hr hm
  obtain ⟨E, hE⟩ : ∃ e, flE9 L = e := ⟨_, rfl⟩
  obtain ⟨FL, hFL⟩ : ∃ x, flL9 L = x := ⟨_, rfl⟩
  obtain ⟨T, hT⟩ : ∃ t, flT9 L = t := ⟨_, rfl⟩
  have HEF := Lib.hid (show flE9 L = E ∧ flL9 L = FL ∧ flT9 L = T from ⟨hE, hFL, hT⟩)
  rw [hE, hFL] at HLO
  rw [hE, hT]
  clear hE hFL hT
  go_enter Try.func10, Try.ntmps10
  go_wp2_with fail
  refine HLO.out.mono ?_
  rintro r w1 ⟨A1, c1, rfl, ho, hb⟩
  have HO1 := Lib.hid ho
  have HB1 := Lib.hid hb
  clear HLO ho hb
  by_cases h0 : E = 0
  · subst h0
    have hE0 := HEF.out.1
    have HT : Hid (T = (List.range m).map (tm9 FL) ∧ FL = lpU9 L L.length) := Lib.hid (by
      have h1 := HEF.out.2.1
      have h2 := HEF.out.2.2
      rw [flL9, if_pos hE0] at h1
      rw [flT9, if_pos hE0, h1, HLm.out] at h2
      exact ⟨h2.symm, h1.symm⟩)
    have HWl : Hid (Wl9 L FL) := Lib.hid (by rw [HT.out.2]; exact wl9 hE0)
    have HBD : Hid (∀ p, p < m → ∀ i, 1 ≤ tm9 (FL.take i) p ∧ tm9 (FL.take i) p ≤ 100000000) := Lib.hid fun p hp i => by
      rw [HT.out.2]
      exact tmk_bd hE0 (by rw [HLm.out]; exact hp) i
    have hm2 : m ≤ 200 := by have := (codM_all (flE9_zero hE0).1).2.1; rw [HLm.out] at this; exact this
    obtain ⟨n, hn⟩ : ∃ n, FL.length = n := ⟨_, rfl⟩
    rw [hn] at HO1 ⊢
    have HN := Lib.hid hn
    have hnl : n ≤ 9223372036854775807 := by have := (Rj.of_own HO1.out (fun _ _ => trivial)).1.len; omega
    have HRJ : Hid (∀ w', Below w1.heap.size w1 w' → Rj w' A1 c1 FL) := Lib.hid fun w' hb => (Rj.of_own HO1.out (fun _ _ => trivial)).1.keep hb
    have HTL : Hid (T.length = m) := Lib.hid (by rw [HT.out.1]; simp)
    clear hE0 hn
    go_wp2_with fail
    go_loopw [6, 7] (fun ov pv wq => ∃ (p c2 : Nat) (A2 : Option Addr), p ≤ m ∧ pv = .int .i64 p ∧ ov = .slice A2 p c2 ∧ Hid (wq.ownsRow w1.heap.size 3 1 (.slice A2 p c2) p (ci9 (T.take p))) ∧ Hid (Below w1.heap.size w1 wq)) (fun _ pv _ => m - (intOf pv).toNat)
    case atStart => exact ⟨0, 0, none, by omega, rfl, rfl, Lib.hid (World.ownsRow_nil _ _ _ _), Lib.hid (Below.refl _ _)⟩
    case round =>
      obtain ⟨p, c2, A2, hp, rfl, rfl, HO, HB⟩ := hrel
      by_cases h1 : p < m
      · go_wp2_with fail
        go_loopw [8, 9] (fun nv iv wq => ∃ (i : Nat) (v : Int), i ≤ n ∧ iv = .int .i64 i ∧ nv = .int .i64 v ∧ Hid (v = tm9 (FL.take i) p) ∧ (1 ≤ v ∧ v ≤ 100000000) ∧ Hid (wq.ownsRow w1.heap.size 3 1 (.slice A2 p c2) p (ci9 (T.take p))) ∧ Hid (Below w1.heap.size w1 wq)) (fun _ iv _ => n - (intOf iv).toNat)
        case atStart => exact ⟨0, 1, by omega, rfl, rfl, Lib.hid (by simp [tm9, lq9]), by omega, HO, HB⟩
        case round =>
          clear HO HB
          obtain ⟨i, v, hi, rfl, rfl, HV, hvb, HO, HB⟩ := hrel
          by_cases h2 : i < n
          · obtain ⟨⟨f, t, z⟩, hx⟩ : ∃ x, FL[i]? = some x := ⟨_, List.getElem?_eq_getElem (by rw [HN.out]; exact h2)⟩
            have hst := tm9_take (p := p) hx
            have hbd := HBD.out p h1 (i + 1)
            obtain ⟨ad, hA, k1, k2, k3⟩ := (HRJ.out _ HB.out).cl9 hx
            have HCL : Hid (∀ w', Below wr.heap.size wr w' → w'.cell? ⟨(ad.add (i * 3)).block, (ad.add (i * 3)).off + 2, none⟩ = some (.int .i64 z)) := Lib.hid fun w' hb => (hb.cell (cell_lt k3)).trans k3
            subst hA
            have HWI := Lib.hid (within9_v f t p z wr)
            have hwi : wi9 (f, t, z) p = (decide (f < p) && decide (p ≤ t)) := rfl
            rw [hwi] at hst
            generalize (decide (f < p) && decide (p ≤ t)) = b at HWI hst
            clear hx hwi
            cases b with
            | false =>
              have HV2 : Hid (v = tm9 (FL.take (i + 1)) p) := Lib.hid (by rw [hst, HV.out]; rfl)
              clear hst hbd
              go_wp2_with fail
              refine HWI.out.mono ?_
              rintro r w4 ⟨rfl, hb⟩
              have HO4 := Lib.hid (own_below HO.out hb (Nat.le_refl _))
              have HB4 := Lib.hid (below_on HB.out hb)
              clear hb k1 k2 k3
              go_wp2_with fail
              go_roundw
              case rel => exact ⟨i + 1, v, by omega, by go_num, rfl, HV2, hvb, HO4, HB4⟩
              case measure => simp [intOf]; omega
            | true =>
              rw [if_pos rfl, ← HV.out] at hst
              obtain ⟨y, hy⟩ : ∃ y, v * z = y := ⟨_, rfl⟩
              have HV2 : Hid (y = tm9 (FL.take (i + 1)) p) := Lib.hid (by rw [hst, ← hy])
              rw [hst] at hbd
              simp only at hbd
              rw [hy] at hbd
              have hwr : IntKind.i64.wrap (v * z) = y := by
                rw [hy]
                simp [IntKind.wrap, IntKind.signed, IntKind.bits, go_sem]
                omega
              clear hst hy
              go_wp2_with fail
              refine HWI.out.mono ?_
              rintro r w4 ⟨rfl, hb⟩
              have HO4 := Lib.hid (own_below HO.out hb (Nat.le_refl _))
              have HB4 := Lib.hid (below_on HB.out hb)
              have k4 := HCL.out _ hb
              clear hb k1 k2 k3
              go_wp2_with fail
              go_roundw
              case rel => exact ⟨i + 1, y, by omega, by go_num, rfl, HV2, hbd, HO4, HB4⟩
              case measure => simp [intOf]; omega
          · obtain rfl : n = i := by omega
            have HTP : Hid (T.take (p + 1) = T.take p ++ [v]) := Lib.hid (by
              have h : T[p]? = some v := by
                rw [HT.out.1, List.getElem?_map, List.getElem?_range h1, Option.map_some, HV.out, List.take_of_length_le (by rw [HN.out]; exact Nat.le_refl _)]
              rw [List.take_add_one, h]; rfl)
            go_wp2_with (at_builtin; refine wpList_append_ni _ rfl (.tmp 43) (.tmp 45) rfl w1.heap.size _ p (T.take p) rfl (HO.out.alloc _) _ 1 1 [v] rfl (rn_new wr v) rfl (by omega) (by have := HB.out.size; simp; omega) ?_)
            rintro A6 c6 w6 ho hb
            have HO6 : Hid (w6.ownsRow w1.heap.size 3 1 (.slice A6 (p + 1) c6) (p + 1) (ci9 (T.take (p + 1)))) := Lib.hid (by rw [HTP.out]; exact ho)
            have HB6 : Hid (Below w1.heap.size w1 w6) := Lib.hid (HB.out.trans ((new1.mono HB.out.size).trans hb))
            clear ho hb HTP
            go_wp2_with fail
            go_roundw
            case rel => exact ⟨p + 1, c6, A6, by omega, by go_num, rfl, HO6, HB6⟩
            case measure => simp [intOf]; omega
      · obtain rfl : p = m := by omega
        have HOW : Hid (wr.ownsRow w.heap.size 3 1 (.slice A2 p c2) p (ci9 T)) := Lib.hid (by
          have h := own_below HO.out (Below.refl _ _) HB1.out.size
          rwa [List.take_of_length_le (by rw [HTL.out]; exact Nat.le_refl _)] at h)
        have HBW : Hid (Below w.heap.size w wr) := Lib.hid (below_on HB1.out HB.out)
        go_wp2_with fail
        go_ret2
        exact ⟨A2, c2, by rw [HTL.out]; rfl, by rw [HTL.out]; exact HOW.out, HBW.out⟩
  · have hne : (E != 0) = true := by simpa using h0
    have HN : Hid (T = []) := Lib.hid (by rw [← HEF.out.2.2, flT9, if_neg (by rw [HEF.out.1]; exact h0)])
    go_wp2_with fail
    go_ret2
    exact ⟨none, 0, by rw [HN.out]; rfl, by rw [HN.out]; exact World.ownsRow_nil _ _ _ _, HB1.out⟩
set_option maxHeartbeats 8000000 in
theorem r9ways_v (A : Option Addr) (c m : Nat) (L : List Ins) (a : Int) (w : World) (hr : Ri w A c L) (hm : L.length = m) :
    Calls Try.prog 16 #[.slice A m c, .int .i64 a] w fun r w' => ∃ A' c', r = .returned (.tuple #[.slice A' (flW9 L a).1.length c', .int .i64 (flW9 L a).2]) ∧ w'.ownsRow w.heap.size 3 1 (.slice A' (flW9 L a).1.length c') (flW9 L a).1.length (ci9 (flW9 L a).1) ∧ Below w.heap.size w w' := by
  have HLm := Lib.hid hm
  have HR := Lib.hid hr
  have hml : m ≤ 9223372036854775807 := by have := hr.len; omega
  have HLO := Lib.hid (r9loops_v A c m L w hr hm)
  clear hr hm
  obtain ⟨E, hE⟩ : ∃ e, flE9 L = e := ⟨_, rfl⟩
  obtain ⟨FL, hFL⟩ : ∃ x, flL9 L = x := ⟨_, rfl⟩
  obtain ⟨FW, hFW⟩ : ∃ x, flW9 L a = x := ⟨_, rfl⟩
  have HEF := Lib.hid (show flE9 L = E ∧ flW9 L a = FW from ⟨hE, hFW⟩)
  rw [hE, hFL] at HLO
  rw [hFW]
  clear hE hFW hFL
  go_enter Try.func16, Try.ntmps16
  go_wp2_with fail
  refine HLO.out.mono ?_
  rintro r w1 ⟨A1, c1, rfl, -, hb⟩
  have HB1 := Lib.hid hb
  clear HLO hb
  by_cases h0 : E = 0
  · subst h0
    have hE0 := HEF.out.1
    by_cases ha : a < 0
    · have HF : Hid (FW = ([], 2)) := Lib.hid (by rw [← HEF.out.2, flW9, if_pos hE0, if_pos (.inl ha)])
      clear hE0
      go_wp2_with fail
      go_ret2
      exact ⟨none, 0, by rw [HF.out]; rfl, by rw [HF.out]; exact World.ownsRow_nil _ _ _ _, HB1.out⟩
    by_cases ham : (m : Int) ≤ a
    · have HF : Hid (FW = ([], 2)) := Lib.hid (by rw [← HEF.out.2, flW9, if_pos hE0, if_pos (.inr (by rw [HLm.out]; exact ham))])
      clear hE0
      go_wp2_with fail
      go_ret2
      exact ⟨none, 0, by rw [HF.out]; rfl, by rw [HF.out]; exact World.ownsRow_nil _ _ _ _, HB1.out⟩
    obtain ⟨p, rfl⟩ : ∃ p : Nat, a = p := ⟨a.toNat, by omega⟩
    have hpm : p < m := by omega
    have HF : Hid (FW = (wy9 L p, 0)) := Lib.hid (by rw [← HEF.out.2, flW9, if_pos hE0, if_neg (by rw [HLm.out]; omega), Int.toNat_natCast])
    have hm2 : m ≤ 200 := by have := (codM_all (flE9_zero hE0).1).2.1; rw [HLm.out] at this; exact this
    obtain ⟨⟨o, b, z⟩, hx⟩ : ∃ x, L[p]? = some x := ⟨_, List.getElem?_eq_getElem (by rw [HLm.out]; exact hpm)⟩
    have HXO : Hid (iO9 L p = o ∧ iA9 L p = b) := Lib.hid ⟨by simp [iO9, hx], by simp [iA9, hx]⟩
    have hb0 : 0 ≤ b ∧ b ≤ 1000000 := by
      have h1 := (codM_all (flE9_zero hE0).1).2.2 _ (List.mem_of_getElem? hx)
      have h2 := opM_bd h1
      simp at h2
      omega
    obtain ⟨ad, hA, k1, k2, k3⟩ := (HR.out.keep HB1.out).cl9 hx
    subst hA
    clear hx hE0 ha ham
    by_cases h31 : o = 31
    · subst h31
      have HF2 : Hid (FW = ([], 0)) := Lib.hid (by rw [HF.out, wy9, HXO.out.1, HXO.out.2]; rw [if_pos (.inl rfl)])
      go_wp2_with fail
      go_ret2
      exact ⟨none, 0, by rw [HF2.out]; rfl, by rw [HF2.out]; exact World.ownsRow_nil _ _ _ _, HB1.out⟩
    by_cases h32 : o = 32
    · subst h32
      have HF2 : Hid (FW = ([], 0)) := Lib.hid (by rw [HF.out, wy9, HXO.out.1, HXO.out.2]; rw [if_pos (.inr rfl)])
      go_wp2_with fail
      go_ret2
      exact ⟨none, 0, by rw [HF2.out]; rfl, by rw [HF2.out]; exact World.ownsRow_nil _ _ _ _, HB1.out⟩
    by_cases h26 : o = 26
    · subst h26
      have HF2 : Hid (FW = ([b], 0)) := Lib.hid (by rw [HF.out, wy9, HXO.out.1, HXO.out.2]; rw [if_neg (by omega), if_pos rfl])
      go_wp2_with fail
      go_ret2
      exact ⟨some ⟨w1.heap.size, 0, none⟩, 1, by rw [HF2.out]; rfl, by rw [HF2.out]; exact World.ownsRow_lit w1 #[.int .i64 b] 1 HB1.out.size (by unfold maxLen; omega) rfl, HB1.out.trans (new1.mono HB1.out.size)⟩
    by_cases h27 : o = 27
    · subst h27
      by_cases hb : b = p + 1
      · subst hb
        have HF2 : Hid (FW = ([((p : Int) + 1)], 0)) := Lib.hid (by rw [HF.out, wy9, HXO.out.1, HXO.out.2]; rw [if_neg (by omega), if_neg (by omega), if_pos rfl, if_pos rfl])
        go_wp2_with fail
        go_ret2
        exact ⟨some ⟨w1.heap.size, 0, none⟩, 1, by rw [HF2.out]; rfl, by rw [HF2.out]; exact World.ownsRow_lit w1 #[.int .i64 ((p : Int) + 1)] 1 HB1.out.size (by unfold maxLen; omega) rfl, HB1.out.trans (new1.mono HB1.out.size)⟩
      · have hbn : (b == (p : Int) + 1) = false := by simpa using hb
        have HF2 : Hid (FW = ([((p : Int) + 1), b], 0)) := Lib.hid (by rw [HF.out, wy9, HXO.out.1, HXO.out.2]; rw [if_neg (by omega), if_neg (by omega), if_pos rfl, if_neg hb])
        go_wp2_with fail
        go_ret2
        exact ⟨some ⟨w1.heap.size, 0, none⟩, 2, by rw [HF2.out]; rfl, by rw [HF2.out]; exact World.ownsRow_lit w1 #[.int .i64 ((p : Int) + 1), .int .i64 b] 2 HB1.out.size (by unfold maxLen; omega) rfl, HB1.out.trans (new1.mono HB1.out.size)⟩
    by_cases h29 : o = 29
    · subst h29
      have HF2 : Hid (FW = ([(b + 1), ((p : Int) + 1)], 0)) := Lib.hid (by rw [HF.out, wy9, HXO.out.1, HXO.out.2]; rw [if_neg (by omega), if_neg (by omega), if_neg (by omega), if_pos rfl])
      go_wp2_with fail
      go_ret2
      exact ⟨some ⟨w1.heap.size, 0, none⟩, 2, by rw [HF2.out]; rfl, by rw [HF2.out]; exact World.ownsRow_lit w1 #[.int .i64 (b + 1), .int .i64 ((p : Int) + 1)] 2 HB1.out.size (by unfold maxLen; omega) rfl, HB1.out.trans (new1.mono HB1.out.size)⟩
    have e31 : (o == 31) = false := by simpa using h31
    have e32 : (o == 32) = false := by simpa using h32
    have e26 : (o == 26) = false := by simpa using h26
    have e27 : (o == 27) = false := by simpa using h27
    have e29 : (o == 29) = false := by simpa using h29
    have HF2 : Hid (FW = ([((p : Int) + 1)], 0)) := Lib.hid (by rw [HF.out, wy9, HXO.out.1, HXO.out.2]; rw [if_neg (by omega), if_neg h26, if_neg h27, if_neg h29])
    go_wp2_with fail
    go_ret2
    exact ⟨some ⟨w1.heap.size, 0, none⟩, 1, by rw [HF2.out]; rfl, by rw [HF2.out]; exact World.ownsRow_lit w1 #[.int .i64 ((p : Int) + 1)] 1 HB1.out.size (by unfold maxLen; omega) rfl, HB1.out.trans (new1.mono HB1.out.size)⟩
  · have hne : (E != 0) = true := by simpa using h0
    have HF : Hid (FW = ([], E)) := Lib.hid (by rw [← HEF.out.2, flW9, if_neg (by rw [HEF.out.1]; exact h0), HEF.out.1])
    go_wp2_with fail
    go_ret2
    exact ⟨none, 0, by rw [HF.out]; rfl, by rw [HF.out]; exact World.ownsRow_nil _ _ _ _, HB1.out⟩
end Go.Proofs.Ytfchdggefedgoaa
