/-
  Ed, Ee, Ef: in one text.
-/
import Derived.Test.YtimjnmkfbdijeaaLea
import Derived.Test.YtimjnmkfbdijeaaLu
import Derived.Test.YtimjnmkfbdijeaaTi
import Derived.Test.YtimjnmkfbdijeaaLk
import Derived.Test.YtimjnmkfbdijeaaNi
import Derived.Test.YtimjnmkfbdijeaaLm
namespace Go.Proofs.Ytimjnmkfbdijeaa
open Go.RowKit
set_option maxRecDepth 100000
set_option linter.unusedSimpArgs false
set_option linter.unusedVariables false

set_option maxHeartbeats 4000000 in
theorem r11calls_v (x : Mc) (h : Mh) (L : List Ins) (n : Int) (w : World) (hr : Ri w x.D x.e L) (hk : L.length = x.k) : Calls Try.prog 41 #[mv x h, .int .i64 n] w fun e w' => e = .returned (.bool (cl11 L n)) ∧ Below w.heap.size w w' := by
  obtain ⟨XA, xc, XB, xd, XD, m, xe⟩ := x
  dsimp only at hr hk
  have hm9 : m ≤ 9223372036854775807 := by have := hr.len; omega
  have HM := Lib.hid hk
  have S0 := Lib.hid ((((Sx.start w).add (fT XD xe L) hr).mkM ⟨XA, xc, XB, xd, XD, m, xe⟩ h))
  obtain ⟨B, hB⟩ : ∃ B, w.heap.size = B := ⟨_, rfl⟩
  rw [hB] at S0
  clear hr hk
  go_enter Try.func41, Try.ntmps41
  go_upto_region 1 with (fail)
  change Code.wp _ _ _ _ (w.alloc (hcel ⟨XA, xc, XB, xd, XD, m, xe⟩ h))
  generalize w.alloc (hcel ⟨XA, xc, XB, xd, XD, m, xe⟩ h) = w1 at S0 ⊢
  have S1 := S0
  clear S0
  obtain ⟨-, ⟨m0, m1, m2, m3, m4, m5, m6, m7, m8⟩, -⟩ := S1.out
  dsimp only at m8
  clear hB
  go_wp2_with fail
  go_loopw [5] (fun iv wq => ∃ i : Nat, i ≤ m ∧ iv = .int .i64 i ∧ w1 = wq ∧ Hid (cl11 (L.take i) n = false)) (fun iv _ => m - (intOf iv).toNat)
  case atStart => exact ⟨0, by omega, rfl, rfl, Lib.hid (by simp [cl11])⟩
  case round =>
    obtain ⟨i, hi, rfl, rfl, HT⟩ := hrel
    by_cases h1 : i < m
    · obtain ⟨⟨o, a, z⟩, hx⟩ : ∃ x, L[i]? = some x := ⟨_, List.getElem?_eq_getElem (by rw [HM.out]; exact h1)⟩
      obtain ⟨al, hA, k1, k2, k3⟩ := S1.out.2.2.1.at9 hx
      subst hA
      have HX := Lib.hid hx
      clear hx k3
      have HS : Hid (cl11 (L.take (i + 1)) n = (o == 30 && a == n)) := Lib.hid (by
        have h := HT.out
        unfold cl11 at h ⊢
        rw [List.take_add_one, HX.out, List.any_append, h]
        simp)
      by_cases ho : o = 30
      · by_cases ha : a = n
        · have HE : Hid (cl11 L n = true) := Lib.hid (by
            unfold cl11
            rw [List.any_eq_true]
            exact ⟨_, List.mem_of_getElem? HX.out, by simp [ho, ha]⟩)
          have e1 : (o == 30) = true := by simpa using ho
          have e2 : (a == n) = true := by simpa using ha
          clear ho ha
          go_wp2_with fail
          go_ret
          exact ⟨by rw [HE.out]; rfl, S1.out.1⟩
        · have HT2 : Hid (cl11 (L.take (i + 1)) n = false) := Lib.hid (by rw [HS.out]; simp [ha])
          have e1 : (o == 30) = true := by simpa using ho
          have e2 : (a == n) = false := by simpa using ha
          clear ho ha
          go_wp2_with fail
          go_roundw
          case rel => exact ⟨i + 1, by omega, by go_num, (by first | trivial | rfl), HT2⟩
          case measure => simp [intOf]; omega
      · have HT2 : Hid (cl11 (L.take (i + 1)) n = false) := Lib.hid (by rw [HS.out]; simp [ho])
        have e1 : (o == 30) = false := by simpa using ho
        clear ho
        go_wp2_with fail
        go_roundw
        case rel => exact ⟨i + 1, by omega, by go_num, (by first | trivial | rfl), HT2⟩
        case measure => simp [intOf]; omega
    · obtain rfl : m = i := by omega
      have HE : Hid (cl11 L n = false) := Lib.hid (by have h := HT.out; rwa [List.take_of_length_le (by rw [HM.out]; exact Nat.le_refl _)] at h)
      go_wp2_with fail
      go_ret
      exact ⟨by rw [HE.out]; rfl, S1.out.1⟩
end Go.Proofs.Ytimjnmkfbdijeaa
namespace Go.Proofs.Ytimjnmkfbdijeaa
open Go.RowKit
set_option maxRecDepth 100000
set_option linter.unusedSimpArgs false
set_option linter.unusedVariables false

/-- What tells numbers and an error. -/
def Ns11 (w w' : World) (T : List Int × Int) (e : Ending) : Prop := ∃ A' c', e = .returned (.tuple #[.slice A' T.1.length c', .int .i64 T.2]) ∧ w'.ownsRow w.heap.size 3 1 (.slice A' T.1.length c') T.1.length (ci9 T.1) ∧ Below w.heap.size w w'
theorem Ns11.err {w w' : World} {T : List Int × Int} {e : Int} (hT : T = ([], e)) (hb : Below w.heap.size w w') : Ns11 w w' T (.returned (.tuple #[.slice none 0 0, .int .i64 e])) := by
  subst hT
  exact ⟨none, 0, rfl, World.ownsRow_nil _ _ _ _, hb⟩
theorem rn_one11 (w : World) (x : Int) : Rn (w.alloc (.cells #[.int .i64 x] 3)) (some ⟨w.heap.size, 0, none⟩) 1 [x] :=
  ⟨Nat.le_refl _, by unfold maxLen; omega, .inr ⟨_, rfl, fun i y hy => by
    match i, hy with
    | 0, hy =>
      simp at hy
      subst hy
      simp [go_sem, Addr.add]⟩⟩
theorem fil_succ11 (f : Nat → Bool) (j : Nat) : ns11 ((List.range (j + 1)).filter f) = ns11 ((List.range j).filter f) ++ (if f j then [(j : Int)] else []) := by
  rw [List.range_succ, List.filter_append, ns11, List.map_append]
  cases h : f j <;> simp [h]
theorem fil_len11 (f : Nat → Bool) (j : Nat) : (ns11 ((List.range j).filter f)).length ≤ j := by
  rw [List.length_map]
  have := List.length_filter_le f (List.range j)
  rw [List.length_range] at this
  exact this
set_option maxHeartbeats 8000000 in
theorem r11whom_v (y : Ma) (d : Md) (k : Int) (w : World) (hq : Hq w y d) (bs : d.s.length ≤ 1000) : Calls Try.prog 25 #[dv y d, .int .i64 k] w fun e w' => Ns11 w w' (wh11 d k) e := by
  obtain ⟨G, gc, P, pc, AA, cc, Z⟩ := y
  have hzl := hq.zlen
  dsimp only at hzl
  obtain ⟨sn, hsn⟩ : ∃ sn, d.s.length = sn := ⟨_, rfl⟩
  have HSN := Lib.hid hsn
  rw [hsn] at bs
  have S0 := Lib.hid ((((Sx.start w).add (fQm ⟨G, gc, P, pc, AA, cc, Z⟩ d) hq).mkD ⟨G, gc, P, pc, AA, cc, Z⟩ d))
  have HZL := Lib.hid (hzl.trans hsn)
  obtain ⟨T, hT⟩ : ∃ T, wh11 d k = T := ⟨_, rfl⟩
  have HT := Lib.hid hT
  rw [hT]
  obtain ⟨B, hB⟩ : ∃ B, w.heap.size = B := ⟨_, rfl⟩
  have HBB := Lib.hid hB
  rw [hB] at S0
  clear hq hT hzl hsn
  go_enter Try.func25, Try.ntmps25
  go_upto_region 1 with (fail)
  change Code.wp _ _ _ _ (w.alloc (dcel ⟨G, gc, P, pc, AA, cc, Z⟩ d))
  generalize w.alloc (dcel ⟨G, gc, P, pc, AA, cc, Z⟩ d) = w1 at S0 ⊢
  have S1 := S0
  clear S0 hB
  obtain ⟨-, ⟨d0, d1, d2, d3, d4⟩, -⟩ := S1.out
  dsimp only at d1 d2 d3
  rw [HSN.out] at d3
  by_cases hk0 : k < 0
  · have HE := Lib.hid (Ns11.err (w := w) (w' := w1) (T := T) (e := 2) (by rw [← HT.out, wh11, if_pos (.inl hk0)]) S1.out.1)
    go_wp2_with fail
    go_ret2
    exact HE.out
  by_cases hks : (sn : Int) ≤ k
  · have HE := Lib.hid (Ns11.err (w := w) (w' := w1) (T := T) (e := 2) (by rw [← HT.out, wh11, if_pos (.inr (by rw [HSN.out]; exact hks))]) S1.out.1)
    go_wp2_with fail
    go_ret2
    exact HE.out
  obtain ⟨k, rfl⟩ : ∃ k' : Nat, k = k' := ⟨k.toNat, by omega⟩
  have hks2 : k < sn := by omega
  obtain ⟨ad8, hA8, hat, hok⟩ := S1.out.2.2.1.2.2.1.at_ (i := k) (by rw [HZL.out]; exact hks2)
  have hme := S1.out.2.2.1.zat (i := k) (by rw [HZL.out]; exact hks2) (by rw [HSN.out]; exact hks2)
  dsimp only at hA8 hat hok hme
  obtain ⟨zz, hzz⟩ : ∃ zz, Z[k]'(by rw [HZL.out]; exact hks2) = zz := ⟨_, rfl⟩
  rw [hzz] at hat hok hme
  obtain ⟨⟨XA, xc, XB, xd, XD, xk, xe⟩, h, L⟩ := zz
  subst hA8
  have HCO : Hid (co11 d k = L) := Lib.hid (by rw [co11, List.getElem?_eq_getElem (by rw [HSN.out]; exact hks2), hme]; rfl)
  have HTM : Hid (T = if bd11 L sn = true then ([], 2) else (ns11 ((List.range sn).filter (e11 d k)), 0)) := Lib.hid (by
    rw [← HT.out, wh11, if_neg (by rw [HSN.out]; omega), Int.toNat_natCast, HCO.out, HSN.out])
  obtain ⟨hH, hRi, hxk⟩ := hok
  dsimp only at hH hRi hxk
  obtain ⟨g0, g1, g2, g3, g4, g5, g6, g7⟩ := hat
  dsimp only at g0 g1 g2 g3 g4 g5 g6 g7
  obtain ⟨m, hm⟩ : ∃ m, L.length = m := ⟨_, rfl⟩
  obtain rfl : m = xk := by rw [← hm]; exact hxk
  have HLm := Lib.hid hm
  have hm9 : m ≤ 9223372036854775807 := by have := hRi.len; omega
  have hks3 : k < sn := hks2
  clear hzz hme hks hxk hm
  go_upto_region 4 with (fail)
  have S2 := Lib.hid ((S1.out.add (fT XD xe L) hRi).mkM ⟨XA, xc, XB, xd, XD, m, xe⟩ h)
  obtain ⟨D, hD⟩ : ∃ D, w1.heap.size = D := ⟨_, rfl⟩
  rw [hD] at S2 ⊢
  have S2 : Hid (Sx w (w1.alloc (hcel ⟨XA, xc, XB, xd, XD, m, xe⟩ h)) [fM D ⟨XA, xc, XB, xd, XD, m, xe⟩ h, fT XD xe L, fD B ⟨G, gc, P, pc, (some ad8), cc, Z⟩ d, fQm ⟨G, gc, P, pc, (some ad8), cc, Z⟩ d]) := Lib.hid S2.out
  change Code.wp _ _ _ _ (w1.alloc (hcel ⟨XA, xc, XB, xd, XD, m, xe⟩ h))
  generalize w1.alloc (hcel ⟨XA, xc, XB, xd, XD, m, xe⟩ h) = w2 at S2 ⊢
  clear g0 g1 g2 g3 g4 g5 g6 g7 d0 d1 d2 d3 d4 hD S1 hRi hH
  go_wp2_with fail
  go_loopw [7] (fun iv wq => ∃ i : Nat, i ≤ m ∧ iv = .int .i64 i ∧ Hid (bd11 (L.take i) sn = false) ∧ Hid (Sx w wq [fM D ⟨XA, xc, XB, xd, XD, m, xe⟩ h, fT XD xe L, fD B ⟨G, gc, P, pc, (some ad8), cc, Z⟩ d, fQm ⟨G, gc, P, pc, (some ad8), cc, Z⟩ d])) (fun iv _ => m - (intOf iv).toNat)
  case atStart => exact ⟨0, by omega, rfl, Lib.hid (by simp [bd11]), S2⟩
  case round =>
    clear S2
    obtain ⟨i, hi, rfl, HI, SQ⟩ := hrel
    rename World => wq
    obtain ⟨-, ⟨m0, m1, m2, m3, m4, m5, m6, m7, m8⟩, -, ⟨d0, d1, d2, d3, d4⟩, -⟩ := SQ.out
    dsimp only at m1 m2 m8 d1 d2 d3
    rw [HSN.out] at d3
    by_cases h1 : i < m
    · obtain ⟨⟨o, a, z⟩, hx⟩ : ∃ x, L[i]? = some x := ⟨_, List.getElem?_eq_getElem (by rw [HLm.out]; exact h1)⟩
      obtain ⟨al, hA, k1, k2, k3⟩ := SQ.out.2.2.1.at9 hx
      subst hA
      have HX := Lib.hid hx
      have HS : Hid (bd11 (L.take (i + 1)) sn = (o == 30 && (decide (a < 0) || decide ((sn : Int) ≤ a)))) := Lib.hid (by
        have h := HI.out
        unfold bd11 at h ⊢
        rw [List.take_add_one, HX.out, List.any_append, h]
        simp)
      have HBX : Hid ((o == 30 && (decide (a < 0) || decide ((sn : Int) ≤ a))) = true → T = ([], 2)) := Lib.hid fun hb => by
        have : bd11 L sn = true := by
          unfold bd11
          rw [List.any_eq_true]
          exact ⟨_, List.mem_of_getElem? HX.out, hb⟩
        rw [HTM.out, if_pos this]
      clear hx k3
      by_cases ho : o = 30
      · have e1 : (o == 30) = true := by simpa using ho
        by_cases ha : a < 0
        · have HE := Lib.hid (Ns11.err (w := w) (w' := wq) (T := T) (e := 2) (HBX.out (by simp [ho, ha])) SQ.out.1)
          have e2 : decide (a < 0) = true := by simpa using ha
          have HEB := Lib.hid (fun q => Ns11.err (w := w) (w' := wq.drewN q) (T := T) (e := 2) (HBX.out (by simp [ho, ha])) (below_draws SQ.out.1 q))
          clear ho
          go_wp2_with fail
          go_quiet (fail)
          go_wp2_with fail
          go_ret2
          exact HEB.out _
        · have e2 : decide (a < 0) = false := by simpa using ha
          by_cases hs : (sn : Int) ≤ a
          · have e3 : decide ((sn : Int) ≤ a) = true := by simpa using hs
            have HEB := Lib.hid (fun q => Ns11.err (w := w) (w' := wq.drewN q) (T := T) (e := 2) (HBX.out (by simp [ho, hs])) (below_draws SQ.out.1 q))
            clear ho
            go_wp2_with fail
            go_quiet (fail)
            go_wp2_with fail
            go_ret2
            exact HEB.out _
          · have e3 : decide ((sn : Int) ≤ a) = false := by simpa using hs
            have HI2 : Hid (bd11 (L.take (i + 1)) sn = false) := Lib.hid (by rw [HS.out, e2, e3]; simp)
            have SQ2 := Lib.hid (fun q => SQ.out.drewN q)
            clear ho
            go_wp2_with fail
            go_quiet (fail)
            go_wp2_with fail
            go_roundw
            case rel => exact ⟨i + 1, by omega, by go_num, HI2, Lib.hid (SQ2.out _)⟩
            case measure => simp [intOf]; omega
      · have e1 : (o == 30) = false := by simpa using ho
        have HI2 : Hid (bd11 (L.take (i + 1)) sn = false) := Lib.hid (by rw [HS.out, e1]; simp)
        have SQ2 := Lib.hid (fun q => SQ.out.drewN q)
        clear ho
        go_wp2_with fail
        go_quiet (fail)
        go_wp2_with fail
        go_roundw
        case rel => exact ⟨i + 1, by omega, by go_num, HI2, Lib.hid (SQ2.out _)⟩
        case measure => simp [intOf]; omega
    · obtain rfl : m = i := by omega
      have HNB : Hid (T = (ns11 ((List.range sn).filter (e11 d k)), 0)) := Lib.hid (by
        have h := HI.out
        rw [List.take_of_length_le (by rw [HLm.out]; exact Nat.le_refl _)] at h
        rw [HTM.out, if_neg (by rw [h]; simp)])
      go_wp2_with fail
      clear m0 m1 m2 m3 m4 m5 m6 m7 m8 d0 d1 d2 d3 d4
      have HWS : Hid (w.heap.size ≤ wq.heap.size) := Lib.hid SQ.out.1.size
      go_loopw [8, 9] (fun lv jv wz => ∃ (j : Nat) (A1 : Option Addr) (c1 n1 : Nat), j ≤ sn ∧ jv = .int .i64 j ∧ lv = .slice A1 n1 c1 ∧ n1 ≤ j ∧ Hid (wz.ownsRow wq.heap.size 3 1 (.slice A1 n1 c1) n1 (ci9 (ns11 ((List.range j).filter (e11 d k))))) ∧ Hid (Below wq.heap.size wq wz)) (fun _ jv _ => sn - (intOf jv).toNat)
      case atStart => exact ⟨0, none, 0, 0, by omega, rfl, rfl, by omega, Lib.hid (World.ownsRow_nil _ _ _ _), Lib.hid (Below.refl _ _)⟩
      case round =>
        obtain ⟨j, A1, c1, n1, hj, rfl, rfl, hn1, HO, HB⟩ := hrel
        rename World => wz
        have SZ := Lib.hid (SQ.out.call HB.out)
        obtain ⟨-, ⟨m0, m1, m2, m3, m4, m5, m6, m7, m8⟩, -, ⟨d0, d1, d2, d3, d4⟩, -⟩ := SZ.out
        dsimp only at m1 m2 m8 d1 d2 d3
        rw [HSN.out] at d3
        by_cases h1 : j < sn
        · have HCL := Lib.hid (r11calls_v ⟨XA, xc, XB, xd, XD, m, xe⟩ h L j wz SZ.out.2.2.1 HLm.out)
          obtain ⟨v, hv⟩ : ∃ v, cl11 L j = v := ⟨_, rfl⟩
          have HEV : Hid (e11 d k j = v) := Lib.hid (by rw [e11, HCO.out]; exact hv)
          rw [hv] at HCL
          clear hv
          go_wp2_with fail
          refine HCL.out.mono ?_
          rintro r w9 ⟨rfl, hb⟩
          have HO9 := Lib.hid (own_below HO.out hb (Nat.le_refl _))
          have HB9 := Lib.hid (below_on HB.out hb)
          clear hb HCL HO HB SZ m0 m1 m2 m3 m4 m5 m6 m7 m8 d0 d1 d2 d3 d4
          have HFS := Lib.hid (fil_succ11 (e11 d k) j)
          rw [Hid, HEV.out] at HFS
          have HFS := Lib.hid HFS
          cases v with
          | false =>
            have HO8 : Hid (w9.ownsRow wq.heap.size 3 1 (.slice A1 n1 c1) n1 (ci9 (ns11 ((List.range (j + 1)).filter (e11 d k))))) := Lib.hid (by
              rw [HFS.out]
              simpa using HO9.out)
            go_wp2_with fail
            go_roundw
            case rel => exact ⟨j + 1, A1, c1, n1, by omega, by go_num, rfl, by omega, HO8, HB9⟩
            case measure => simp [intOf]; omega
          | true =>
            go_wp2_with (at_builtin; refine wpList_append_niN _ rfl (.tmp 69) (.tmp 71) rfl wq.heap.size _ n1 (ns11 ((List.range j).filter (e11 d k))) rfl (HO9.out.alloc _) _ 1 1 [(j : Int)] rfl (rn_one11 w9 j) rfl (by omega) (by have := HB9.out.size; simp; omega) ?_)
            intro A3 c3 w10 ho hb
            have HO8 : Hid (w10.ownsRow wq.heap.size 3 1 (.slice A3 (n1 + 1) c3) (n1 + 1) (ci9 (ns11 ((List.range (j + 1)).filter (e11 d k))))) := Lib.hid (by
              rw [HFS.out]
              exact ho)
            have HB10 : Hid (Below wq.heap.size wq w10) := Lib.hid (HB9.out.trans ((new1.mono HB9.out.size).trans hb))
            clear ho hb HO9 HB9
            go_wp2_with fail
            go_roundw
            case rel => exact ⟨j + 1, A3, c3, n1 + 1, by omega, by go_num, rfl, by omega, HO8, HB10⟩
            case measure => simp [intOf]; omega
        · obtain rfl : sn = j := by omega
          have HOF := Lib.hid (own_base HO.out HWS.out)
          have hnl : n1 = (ns11 ((List.range sn).filter (e11 d k))).length := by
            have := HO.out.1
            simp only [ci9, List.length_map] at this ⊢
            omega
          have HNL := Lib.hid hnl
          clear hnl
          have HBW := Lib.hid SZ.out.1
          go_wp2_with fail
          go_ret2
          exact ⟨A1, c1, by rw [HNB.out, ← HNL.out]; rfl, by rw [HNB.out]; dsimp only; rw [← HNL.out]; exact HOF.out, HBW.out⟩
end Go.Proofs.Ytimjnmkfbdijeaa
namespace Go.Proofs.Ytimjnmkfbdijeaa
open Go.RowKit
set_option maxRecDepth 100000
set_option linter.unusedSimpArgs false
set_option linter.unusedVariables false

def slen11 : Value → Nat
  | .slice _ n _ => n
  | _ => 0
theorem ns11_has (o : List Nat) (j : Nat) : (ns11 o).contains (j : Int) = o.contains j := by
  have h : (ns11 o).contains (j : Int) = true ↔ o.contains j = true := by
    rw [List.contains_iff_mem, List.contains_iff_mem, ns11, List.mem_map]
    exact ⟨fun ⟨i, hi, he⟩ => by have : i = j := by omega
                                 rwa [← this], fun hj => ⟨j, hj, rfl⟩⟩
  cases h1 : o.contains j with
  | true => exact h.2 h1
  | false =>
    cases h2 : (ns11 o).contains (j : Int) with
    | false => rfl
    | true => rw [h.1 h2] at h1; cases h1
theorem rd11_ns {e : Nat → Nat → Bool} {n : Nat} {o : List Nat} {k : Nat} : rd11 e n o k = (!(ns11 o).contains (k : Int) && (ns11 ((List.range n).filter (e k))).all fun x => (ns11 o).contains x) := by
  rw [ns11_has, rd11]
  congr 1
  have h : ((List.range n).all fun j => !e k j || o.contains j) = true ↔ ((ns11 ((List.range n).filter (e k))).all fun x => (ns11 o).contains x) = true := by
    simp only [List.all_eq_true, ns11, List.mem_map, List.mem_filter, List.mem_range]
    constructor
    · rintro h1 x ⟨j, ⟨hj, he⟩, rfl⟩
      have h2 := h1 j hj
      rw [he] at h2
      have h3 := ns11_has o j
      rw [ns11] at h3
      rw [h3]
      simpa using h2
    · intro h1 j hj
      cases he : e k j with
      | false => rfl
      | true =>
        have h2 := h1 j ⟨j, ⟨hj, he⟩, rfl⟩
        have h3 := ns11_has o j
        rw [ns11] at h3
        rw [h3] at h2
        simpa using h2
  generalize ((List.range n).all fun j => !e k j || o.contains j) = a at h ⊢
  generalize ((ns11 ((List.range n).filter (e k))).all fun x => (ns11 o).contains x) = b at h ⊢
  cases a <;> cases b <;> simp at h <;> rfl
theorem nx11_of {e : Nat → Nat → Bool} {n : Nat} {o : List Nat} {k : Nat} (h1 : ∀ i, i < k → rd11 e n o i = false) (h2 : rd11 e n o k = true) (hk : k < n) : nx11 e n o = some k := by
  unfold nx11
  rw [List.find?_range_eq_some]
  exact ⟨h2, List.mem_range.2 hk, fun i hi => by rw [h1 i hi]; rfl⟩
theorem nx11_no {e : Nat → Nat → Bool} {n : Nat} {o : List Nat} (h1 : ∀ i, i < n → rd11 e n o i = false) : nx11 e n o = none := by
  unfold nx11
  rw [List.find?_eq_none]
  intro i hi
  rw [h1 i (List.mem_range.1 hi)]
  decide
theorem all_take11 {l : List Int} {i : Nat} {x : Int} {f : Int → Bool} (hx : l[i]? = some x) : (l.take (i + 1)).all f = ((l.take i).all f && f x) := by
  rw [List.take_add_one, hx, List.all_append]
  simp
end Go.Proofs.Ytimjnmkfbdijeaa
