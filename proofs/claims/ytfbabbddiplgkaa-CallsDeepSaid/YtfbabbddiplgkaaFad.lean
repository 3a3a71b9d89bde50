/-
  Layer 11: law CallsDeep.
-/
import Derived.Test.YtfbabbddiplgkaaLeh
import Derived.Test.YtfbabbddiplgkaaLq
namespace Go.Proofs.Ytfbabbddiplgkaa
open Go.RowKit
set_option maxRecDepth 100000
set_option linter.unusedSimpArgs false
set_option linter.unusedVariables false

set_option maxHeartbeats 16000000 in
theorem deep11_walk (y : Ma) (d : Md) (w : World) (hq : Hq w y d) : Calls Try.prog 6 #[dv y d] w fun r w' => r = .returned (.bool true) ∧ Below w.heap.size w w' := by
  have S0 := Lib.hid ((((Sx.start w).add (fQm y d) hq).mkD y d))
  obtain ⟨B, hB⟩ : ∃ B, w.heap.size = B := ⟨_, rfl⟩
  have HBB := Lib.hid hB
  rw [hB] at S0
  clear hq
  go_enter Try.func6, Try.ntmps6
  go_upto_region 1 with (fail)
  change Code.wp _ _ _ _ (w.alloc (dcel y d))
  generalize w.alloc (dcel y d) = w1 at S0 ⊢
  clear hB
  have HAW := Lib.hid (awake11_v w1)
  go_wp2_with fail
  refine HAW.out.mono ?_
  rintro r w2 ⟨rfl, hb⟩
  have S2 := Lib.hid (S0.out.call hb)
  clear HAW hb S0
  have HGR := Lib.hid (great8_v y d w2 S2.out.2.2.1)
  obtain ⟨-, ⟨d0, d1, d2, d3, d4⟩, -⟩ := S2.out
  go_wp2_with fail
  refine HGR.out.mono ?_
  rintro r w3 ⟨rfl, hb⟩
  have S3 := Lib.hid (S2.out.call hb)
  clear HGR hb S2 d0 d1 d2 d3 d4
  cases hg : qG d with
  | true =>
    go_wp2_with fail
    go_ret
    exact ⟨rfl, S3.out.1⟩
  | false =>
  have HG := Lib.hid hg
  obtain ⟨hs40, hbl⟩ := qG_bs hg
  have HBL := Lib.hid hbl
  clear hg hbl
  have HDE := Lib.hid (deep11_v y d w3 S3.out.2.2.1 (by omega) HBL.out)
  obtain ⟨-, ⟨d0, d1, d2, d3, d4⟩, -⟩ := S3.out
  go_wp2_with fail
  refine HDE.out.mono ?_
  rintro r w4 ⟨A4, c4, rfl, ho, hb⟩
  have S4 := Lib.hid ((S3.out.call hb).add (fRn A4 c4 (de11 d).1) (Rn.of_own ho).1)
  clear HDE hb ho S3 d0 d1 d2 d3 d4
  have HCK := Lib.hid (check11_v y d w4 S4.out.2.2.2.1 (by omega) HBL.out)
  by_cases h0 : (ro11 d).2 = 0
  · obtain ⟨dp, hde, hst, hle⟩ := de11_zero h0
    have HDE := Lib.hid hde
    have HST := Lib.hid hst
    have HLE := Lib.hid hle
    have HRO := Lib.hid h0
    rw [hde] at S4 ⊢
    rw [h0] at HCK
    dsimp only at S4 ⊢
    rw [rw11_len]
    clear hde hst hle h0
    obtain ⟨-, -, ⟨d0, d1, d2, d3, d4⟩, -⟩ := S4.out
    go_wp2_with fail
    refine HCK.out.mono ?_
    rintro r w5 ⟨rfl, hb⟩
    have S5 := Lib.hid (S4.out.call hb)
    clear HCK hb S4 d0 d1 d2 d3 d4
    obtain ⟨-, -, ⟨d0, d1, d2, d3, d4⟩, -⟩ := S5.out
    go_wp2_with fail
    obtain ⟨b1, hb1⟩ : ∃ b1, w5.heap.size = b1 := ⟨_, rfl⟩
    have HB5 := Lib.hid hb1
    have HYK0 : Hid (Yd11 b1 (fun k => bc11 (ck11 d k)) w5 (w5.alloc (.cells #[.slice none 0 0, .slice none 0 0, .slice none 0 0, .int .i64 (-1)] 25)) 0 none 0 []) := Lib.hid ⟨by rw [← hb1]; exact World.alloc_heap_new w5 _, World.ownsRow_nil _ _ _ _, fun z hz => (by cases hz), rfl, (Below.refl b1 w5).alloc (by omega) _, by rw [size1]; omega⟩
    rw [hb1]
    generalize (w5.alloc (.cells #[.slice none 0 0, .slice none 0 0, .slice none 0 0, .int .i64 (-1)] 25)) = w5' at HYK0 ⊢
    clear hb1 d0 d1 d2 d3 d4
    go_loopw [6] (fun iv wr => ∃ (k : Nat) (A1 : Option Addr) (c1 : Nat) (Cs : List Cz), k ≤ d.s.length ∧ iv = .int .i64 k ∧ Hid (Yd11 b1 (fun k => bc11 (ck11 d k)) w5 wr k A1 c1 Cs)) (fun iv _ => d.s.length - (intOf iv).toNat)
    case atStart => exact ⟨0, none, 0, [], by omega, rfl, HYK0⟩
    case round =>
      clear HYK0
      obtain ⟨k, A1, c1, Cs, hk, rfl, HYK⟩ := hrel
      rename World => wr
      have SQ := Lib.hid (S5.out.call (by rw [HB5.out]; exact HYK.out.be))
      by_cases h1 : k < d.s.length
      · obtain ⟨W, hW⟩ : ∃ W, ck11 d k = W := ⟨_, rfl⟩
        have HW := Lib.hid hW
        have HWH := Lib.hid (whom11_v y d k wr SQ.out.2.2.2.1 (by omega) HBL.out)
        rw [wh11_ck HRO.out h1, hW] at HWH
        obtain ⟨kn, hkn⟩ : ∃ kn, W.length = kn := ⟨_, rfl⟩
        have HKN := Lib.hid hkn
        have hkn9 : kn ≤ 40 := by have := ck11_len d k; rw [hW] at this; omega
        obtain ⟨-, -, ⟨d0, d1, d2, d3, d4⟩, -⟩ := SQ.out
        clear hW hkn
        go_wp2_with fail
        refine HWH.out.mono ?_
        rintro r w6 ⟨A6, c6, rfl, ho, hb⟩
        have S6 := Lib.hid ((SQ.out.call hb).add (fRn A6 c6 (ns11 W)) (Rn.of_own ho).1)
        have HYK6 := Lib.hid (HYK.out.keep hb)
        have hnl : (ns11 W).length = kn := by rw [ns11, List.length_map, HKN.out]
        dsimp only
        rw [hnl]
        clear HWH hb ho SQ HYK d0 d1 d2 d3 d4 hnl
        go_wp2_with fail
        obtain ⟨x, hx⟩ : ∃ x, w6.heap.size = x := ⟨_, rfl⟩
        have HXX := Lib.hid hx
        have HXB : Hid (Xc11 (w6.alloc (.cells #[.slice none 0 0, .slice none 0 0, .int .u8 0, .bool false, .int .i64 0, .int .i64 0, .int .i64 0, .slice none 0 0] 52)) x none 0 0) := Lib.hid (by rw [← hx]; exact World.alloc_heap_new w6 _)
        have HXW : Hid (Below x w6 (w6.alloc (.cells #[.slice none 0 0, .slice none 0 0, .int .u8 0, .bool false, .int .i64 0, .int .i64 0, .int .i64 0, .slice none 0 0] 52))) := Lib.hid ((Below.refl _ _).alloc (by omega) _)
        have hxs : (w6.alloc (.cells #[.slice none 0 0, .slice none 0 0, .int .u8 0, .bool false, .int .i64 0, .int .i64 0, .int .i64 0, .slice none 0 0] 52)).heap.size = x + 1 := by rw [size1, hx]
        rw [hx]
        generalize (w6.alloc (.cells #[.slice none 0 0, .slice none 0 0, .int .u8 0, .bool false, .int .i64 0, .int .i64 0, .int .i64 0, .slice none 0 0] 52)) = w7 at HXB HXW hxs ⊢
        clear hx
        go_loopw [9, 11] (fun mv iv wq => ∃ (i M : Nat) (Ac : Option Addr) (cc : Nat), i ≤ kn ∧ iv = .int .i64 i ∧ mv = .int .i64 M ∧ Hid (M = mx11 dp (W.take i) + 1) ∧ M ≤ 50 ∧ Hid (Xc11 wq x Ac i cc) ∧ Hid (wq.ownsRow (x + 1) 54 3 (.slice Ac i cc) i (cei (bc11 (W.take i)))) ∧ Hid (Below x w6 wq) ∧ x + 1 ≤ wq.heap.size) (fun _ iv _ => kn - (intOf iv).toNat)
        case atStart => exact ⟨0, 1, none, 0, by omega, rfl, rfl, Lib.hid rfl, by omega, HXB, Lib.hid (World.ownsRow_nil _ _ _ _), HXW, by omega⟩
        case round =>
          clear HXB HXW hxs
          obtain ⟨i, M, Ac, cc, hi, rfl, rfl, HM, hM9, HXB, HCO, HXW, hxs⟩ := hrel
          rename World => wq
          have SI := Lib.hid (S6.out.call (by rw [HXX.out]; exact HXW.out))
          by_cases h2 : i < kn
          · obtain ⟨t, ht⟩ : ∃ t, W[i]? = some t := ⟨_, List.getElem?_eq_getElem (by rw [HKN.out]; exact h2)⟩
            have htm : t ∈ ck11 d k := by rw [HW.out]; exact List.mem_of_getElem? ht
            have htn := (ck11_mem.1 htm).1
            obtain ⟨P, hP⟩ : ∃ P, dp t = P := ⟨_, rfl⟩
            have hP9 : P ≤ 40 := by have := HLE.out t htn; omega
            have HM2 : Hid (max M (P + 1) = mx11 dp (W.take (i + 1)) + 1) := Lib.hid (by rw [mx11_snoc ht, hP, HM.out]; omega)
            have HTK : Hid (bc11 (W.take (i + 1)) = bc11 (W.take i) ++ [(30, ((t : Int), 0))]) := Lib.hid (by rw [List.take_add_one, ht]; simp [bc11])
            obtain ⟨ad6, hA6, y0⟩ := SI.out.2.1.at_ (ns11_at ht)
            subst hA6
            obtain ⟨ad4, hA4, y1⟩ := SI.out.2.2.1.at_ (rw11_get htn)
            subst hA4
            rw [hP] at y1
            have HCK : Hid (∀ w', Below x w6 w' → w'.cell? (ad6.add i) = some (.int .i64 (t : Int))) := Lib.hid fun w' hb => by
              obtain ⟨ad6', hA6', y0'⟩ := (S6.out.call (by rw [HXX.out]; exact hb)).2.1.at_ (ns11_at ht)
              obtain rfl := Option.some.inj hA6'
              exact y0'
            have HS0 : Hid (Xc11 wq.drew x Ac i cc) ∧ wq.drew.cell? ⟨x, 7, none⟩ = some (.slice Ac i cc) ∧ wq.drew.cell? (ad6.add i) = some (.int .i64 (t : Int)) := ⟨Lib.hid (show Xc11 wq x Ac i cc from HXB.out), HXB.out.cells.2.2.2.2.2.2.2.1, y0⟩
            have HX1 : Hid (Xc11 (wq.drew.alloc (.cells #[.int .u8 30, .int .i64 (t : Int), .int .i64 0] 54)) x Ac i cc) := Lib.hid ((show Xc11 wq.drew x Ac i cc from HXB.out).keep new1 (show x < wq.drew.heap.size from hxs))
            have HXW1 : Hid (Below x w6 (wq.drew.alloc (.cells #[.int .u8 30, .int .i64 (t : Int), .int .i64 0] 54))) := Lib.hid ((below_draws HXW.out 1).alloc (show x ≤ wq.heap.size by omega) _)
            have HO1 : Hid ((wq.drew.alloc (.cells #[.int .u8 30, .int .i64 (t : Int), .int .i64 0] 54)).ownsRow (x + 1) 54 3 (.slice Ac i cc) i (cei (bc11 (W.take i)))) := Lib.hid (HCO.out.drew.alloc _)
            have HR1 := Lib.hid (ri_new wq.drew (30, ((t : Int), 0)) (by unfold InOk; dsimp only; omega))
            clear ht htm hP
            go_wp2_with fail
            refine wp_region_L [10] (S := fun w' => Hid (Xc11 w' x Ac i cc) ∧ w'.cell? ⟨x, 7, none⟩ = some (.slice Ac i cc) ∧ w'.cell? (ad6.add i) = some (.int .i64 (t : Int))) (by kernel_rfl) (HS0) (fun hHeld => ?_)
            refine wpL_reckon (i := 0) (v := ?_) rfl (by kernel_rfl) (fun _ _ _ h => h) (Or.inl ⟨by rfl, ?_⟩) (Or.inr (by assumption)) ?_
            rotate_left 1
            · intro w _; go_simp; try with_reducible rfl
            try simp only [Act.put, List.getElem_toArray, List.getElem_cons_zero, List.getElem_cons_succ, List.setIfInBounds_toArray, List.set_cons_zero, List.set_cons_succ]
            refine wpL_take (i := 1) (v := ?_) rfl (by kernel_rfl) (fun _ _ _ h => h) (Or.inl ⟨by rfl, ?_⟩) (by assumption) ?_
            rotate_left 1
            · intro w hSw; (try dsimp only at hSw); obtain ⟨-, s0, s1⟩ := hSw; go_simp; try with_reducible rfl
            try simp only [Act.put, List.getElem_toArray, List.getElem_cons_zero, List.getElem_cons_succ, List.setIfInBounds_toArray, List.set_cons_zero, List.set_cons_succ]
            refine wpL_reckon (i := 2) (v := ?_) rfl (by kernel_rfl) (fun _ _ _ h => h) (Or.inl ⟨by rfl, ?_⟩) (Or.inr (by assumption)) ?_
            rotate_left 1
            · intro w _; go_simp; try with_reducible rfl
            try simp only [Act.put, List.getElem_toArray, List.getElem_cons_zero, List.getElem_cons_succ, List.setIfInBounds_toArray, List.set_cons_zero, List.set_cons_succ]
            refine wpL_reckon (i := 3) (v := ?_) rfl (by kernel_rfl) (fun _ _ _ h => h) (Or.inl ⟨by rfl, ?_⟩) (Or.inr (by assumption)) ?_
            rotate_left 1
            · intro w _; go_simp; try with_reducible rfl
            try simp only [Act.put, List.getElem_toArray, List.getElem_cons_zero, List.getElem_cons_succ, List.setIfInBounds_toArray, List.set_cons_zero, List.set_cons_succ]
            refine wpL_reckon (i := 4) (v := ?_) rfl (by kernel_rfl) (fun _ _ _ h => h) (Or.inl ⟨by rfl, ?_⟩) (Or.inr (by assumption)) ?_
            rotate_left 1
            · intro w _; go_simp; try with_reducible rfl
            try simp only [Act.put, List.getElem_toArray, List.getElem_cons_zero, List.getElem_cons_succ, List.setIfInBounds_toArray, List.set_cons_zero, List.set_cons_succ]
            refine wpL_take (i := 5) (v := ?_) rfl (by kernel_rfl) (fun _ _ _ h => h) (Or.inl ⟨by rfl, ?_⟩) (by assumption) ?_
            rotate_left 1
            · intro w hSw; (try dsimp only at hSw); obtain ⟨-, s0, s1⟩ := hSw; go_simp; try with_reducible rfl
            try simp only [Act.put, List.getElem_toArray, List.getElem_cons_zero, List.getElem_cons_succ, List.setIfInBounds_toArray, List.set_cons_zero, List.set_cons_succ]
            refine wpL_reckon (i := 6) (v := ?_) rfl (by kernel_rfl) (fun _ _ _ h => h) (Or.inl ⟨by rfl, ?_⟩) (Or.inr (by assumption)) ?_
            rotate_left 1
            · intro w _; go_simp; try with_reducible rfl
            try simp only [Act.put, List.getElem_toArray, List.getElem_cons_zero, List.getElem_cons_succ, List.setIfInBounds_toArray, List.set_cons_zero, List.set_cons_succ]
            refine wpL_ready (rs := [7]) (by kernel_rfl) (by simp) ?_
            refine AllL.cons rfl (fun K hK => ?_) AllL.nil
            go_simp
            go_simp
            go_wp2_with fail
            refine hK.out _ _ (⟨HX1, HX1.out.cells.2.2.2.2.2.2.2.1, HCK.out _ HXW1.out⟩) (fun hHeld => ?_)
            clear hK K
            try simp only [Act.put, List.getElem_toArray, List.getElem_cons_zero, List.getElem_cons_succ, List.setIfInBounds_toArray, List.set_cons_zero, List.set_cons_succ]
            refine wpL_ready (rs := [8]) (by kernel_rfl) (by simp) ?_
            refine AllL.cons rfl (fun K hK => ?_) AllL.nil
            refine step_append_ri rfl (.tmp 89) (.tmp 95) rfl (x + 1) _ i (bc11 (W.take i)) rfl HO1.out _ 1 1 [(30, ((t : Int), 0))] rfl HR1.out rfl (by omega) (by simp; omega) ?_
            intro A9 c9 w9 ho9 _ hb9
            have HO9 := Lib.hid ho9
            have HB9 := Lib.hid hb9
            have HX9 := Lib.hid (HX1.out.keep hb9 (by omega))
            have x9 := HX9.out.cells.2.2.2.2.2.2.2.1
            have x9f := HX9.out.cells.2.2.2.2.2.2.2.2 7
            have x9l := HX9.out.lt
            have HXW9 := Lib.hid (HXW1.out.trans (hb9.mono (by omega)))
            have y9 := HCK.out w9 HXW9.out
            clear ho9 hb9
            refine hK.out _ _ (⟨HX9, x9, y9⟩) (fun hHeld => ?_)
            clear hK K
            try simp only [Act.put, List.getElem_toArray, List.getElem_cons_zero, List.getElem_cons_succ, List.setIfInBounds_toArray, List.set_cons_zero, List.set_cons_succ]
            refine wpL_reckon (i := 9) (v := ?_) rfl (by kernel_rfl) (fun _ _ _ h => h) (Or.inl ⟨by rfl, ?_⟩) (Or.inr (by assumption)) ?_
            rotate_left 1
            · intro w _; go_simp; try with_reducible rfl
            try simp only [Act.put, List.getElem_toArray, List.getElem_cons_zero, List.getElem_cons_succ, List.setIfInBounds_toArray, List.set_cons_zero, List.set_cons_succ]
            refine wpL_ready (rs := [10]) (by kernel_rfl) (by simp) ?_
            refine AllL.late rfl (by kernel_rfl) (fun K hK => ?_) AllL.nil
            go_simp
            refine hK.out _ _ ?_
            clear hK K
            try simp only [Act.put, List.getElem_toArray, List.getElem_cons_zero, List.getElem_cons_succ, List.setIfInBounds_toArray, List.set_cons_zero, List.set_cons_succ]
            refine wpL_done (by kernel_rfl) ?_ _
            have HXB2 := Lib.hid (HX9.out.set A9 (i + 1) c9)
            have HCO2 : Hid ((w9.setCell ⟨x, 7, none⟩ (.slice A9 (i + 1) c9)).ownsRow (x + 1) 54 3 (.slice A9 (i + 1) c9) (i + 1) (cei (bc11 (W.take (i + 1))))) := Lib.hid (by
              rw [HTK.out]
              exact ownsRow_setCell_below HO9.out (show (⟨x, 7, none⟩ : Addr).block < x + 1 from by show x < x + 1; omega) _)
            have HXW2 : Hid (Below x w6 (w9.setCell ⟨x, 7, none⟩ (.slice A9 (i + 1) c9))) := Lib.hid (HXW9.out.setCell (p := ⟨x, 7, none⟩) (Nat.le_refl _) _)
            have hxs2 : x + 1 ≤ (w9.setCell ⟨x, 7, none⟩ (.slice A9 (i + 1) c9)).heap.size := by simp; omega
            go_wp2_with fail
            go_roundw
            case rel => exact ⟨i + 1, max M (P + 1), A9, c9, by omega, by go_num, by congr 1; omega, HM2, by omega, HXB2, HCO2, HXW2, hxs2⟩
            case measure => simp [intOf]; omega
          · obtain rfl : kn = i := by omega
            have hWt : W.take kn = W := List.take_of_length_le (by rw [HKN.out]; exact Nat.le_refl _)
            rw [hWt] at HM HCO
            obtain ⟨P, hP⟩ : ∃ P, dp k = P := ⟨_, rfl⟩
            have hP9 : P ≤ d.s.length := by have := HLE.out k h1; omega
            obtain rfl : M = P := by rw [HM.out, ← hP, HST.out k h1, HW.out]
            obtain ⟨ad4, hA4, y1⟩ := SI.out.2.2.1.at_ (rw11_get h1)
            subst hA4
            rw [hP] at y1
            have HBX : Hid (Below w6.heap.size w6 wq) := Lib.hid (by rw [HXX.out]; exact HXW.out)
            have HYK2 := Lib.hid (HYK6.out.keep HBX.out)
            have hx6 : b1 + 1 ≤ x := by have := HYK6.out.sz; have := HXX.out; omega
            have HCO3 : Hid (wq.ownsRow (b1 + 1) 54 3 (cv11 (Ac, cc, bc11 W)) (bc11 W).length (cei (bc11 W))) := Lib.hid (by
              have hl : (bc11 W).length = kn := by rw [bc11, List.length_map, HKN.out]
              rw [cv11, hl]
              exact own_base HCO.out (by omega))
            have HWF : Hid (bc11 W = (fun k => bc11 (ck11 d k)) k) := Lib.hid (by dsimp only; rw [HW.out])
            have HZE : Hid (mf11 (Ac, cc, bc11 W) = ⟨⟨none, 0, none, 0, Ac, kn, cc⟩, mh0_11, bc11 W⟩) := Lib.hid (by
              have hl : (bc11 W).length = kn := by rw [bc11, List.length_map, HKN.out]
              rw [mf11, hl])
            clear hWt hP HM HCO HXW HBX HYK6 SI
            obtain ⟨e0, e1, e2, e3, e4, e5, e6, e7, -⟩ := HXB.out.cells
            obtain ⟨-, -, m2, -, mf⟩ := HYK2.out.y1.cells
            have m2f := mf 2
            have m2l := HYK2.out.y1.lt
            have HOM := Lib.hid (HYK2.out.row.alloc (.cells #[.slice none 0 0, .slice none 0 0, .int .u8 0, .bool false, .int .i64 0, .int .i64 0, .int .i64 0, .slice Ac kn cc] 52))
            have HCE := Lib.hid (ce8_cells11 wq ⟨⟨none, 0, none, 0, Ac, kn, cc⟩, mh0_11, bc11 W⟩ #[.slice none 0 0, .slice none 0 0, .int .u8 0, .bool false, .int .i64 0, .int .i64 0, .int .i64 0, .slice Ac kn cc] rfl 52)
            clear mf
            go_wp2_with (at_builtin; (refine wpList_append_rm _ rfl (.tmp 118) (.tmp 120) rfl (b1 + 1) _ k (Cs.map mf11) rfl HOM.out _ ⟨⟨none, 0, none, 0, Ac, kn, cc⟩, mh0_11, bc11 W⟩ rfl HCE.out (by omega) (by have := HYK2.out.sz; rw [size1]; omega) ?_; intro A11 c11 w11 ho11 hg11 hb11 hl11; have HY11 := Lib.hid ((HYK2.out.keep (new1 (a := (.cells #[.slice none 0 0, .slice none 0 0, .int .u8 0, .bool false, .int .i64 0, .int .i64 0, .int .i64 0, .slice Ac kn cc] 52)))).y1.keep hb11 (by omega)); have HYP := Lib.hid (HYK2.out.put HCO3.out HWF.out rfl (w2 := w11) (A' := A11) (c' := c11) (by rw [HZE.out]; exact ho11) hg11 hb11); obtain ⟨-, -, n2, -, nf⟩ := HY11.out.cells; have n2f := nf 2; have n2l := HY11.out.lt; clear ho11 hg11 hb11 hl11 nf))
            go_roundw
            case rel => exact ⟨k + 1, A11, c11, _, by omega, by go_num, HYP⟩
            case measure => simp [intOf]; omega
      · obtain rfl : k = d.s.length := by omega
        have HDB : Hid (Calls Try.prog 16 #[.agg #[.slice none 0 0, .slice none 0 0, .slice A1 d.s.length c1, .int .i64 (-1)]] wr fun r w' => Ns11 wr w' (rw11 d.s.length fun t => (dp t : Int), 0) r) := Lib.hid (by
          have h := deep11_v _ (bare11 d) wr (hq11_bare rfl (by omega) HYK.out.row HYK.out.each HYK.out.map) (by rw [bare11_len]; omega) (bare11_bl (by omega))
          rw [dv, bare11_len, bare11_de HRO.out, HDE.out] at h
          exact h)
        obtain ⟨q0, q1, q2, q3, -⟩ := HYK.out.y1.cells
        go_wp2_with fail
        refine HDB.out.mono ?_
        rintro r w9 ⟨A9, c9, rfl, ho9, hb9⟩
        dsimp only at ho9 ⊢
        rw [rw11_len] at ho9 ⊢
        have S9 := Lib.hid (SQ.out.call hb9)
        have HAR := Lib.hid (are11_v A9 A4 c9 c4 d.s.length d.s.length _ _ w9 (Rn.of_own ho9).1 S9.out.2.1 (rw11_len _ _) (rw11_len _ _))
        clear HDB ho9 hb9 SQ q0 q1 q2 q3
        go_wp2_with fail
        refine HAR.out.mono ?_
        rintro r wz ⟨rfl, hb⟩
        have HBZ := Lib.hid (S9.out.call hb).1
        clear hb S9 HAR
        rw [show ((rw11 d.s.length fun t => (dp t : Int)) == (rw11 d.s.length fun t => (dp t : Int))) = true from by simp]
        go_wp2_with fail
        go_ret
        exact ⟨rfl, HBZ.out⟩
  · have HN := Lib.hid (de11_no h0)
    obtain ⟨E, hE⟩ : ∃ E, (ro11 d).2 = E := ⟨_, rfl⟩
    have h2 := de11_two d
    rw [h2, hE, HN.out]
    rw [hE] at h0 HCK
    clear h2 hE
    obtain ⟨-, -, ⟨d0, d1, d2, d3, d4⟩, -⟩ := S4.out
    dsimp only [List.length_nil]
    have q1 : (E != 0) = true := by simpa using h0
    go_wp2_with fail
    refine HCK.out.mono ?_
    rintro r w5 ⟨rfl, hb⟩
    have HB5 := Lib.hid (S4.out.call hb).1
    clear HCK hb S4 d0 d1 d2 d3 d4
    go_wp2_with fail
    go_ret
    exact ⟨rfl, HB5.out⟩
end Go.Proofs.Ytfbabbddiplgkaa
