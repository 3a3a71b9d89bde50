/-
  Layer 11: the law's spoil; the reference's Deep.
-/
import Derived.Test.YtfbabbddiplgkaaLeh
namespace Go.Proofs.Ytfbabbddiplgkaa
open Go.RowKit
set_option maxRecDepth 100000
set_option linter.unusedSimpArgs false
set_option linter.unusedVariables false

theorem own_blk11 {w : World} {base e n c : Nat} {A : Option Addr} {xs : List Value} (h : w.ownsRow base e 1 (.slice A n c) n xs) : ∀ ad : Addr, A = some ad → base ≤ ad.block := by
  intro ad ha
  subst ha
  rcases h.2 with ⟨hv, -⟩ | ⟨g, cap, cur, hv, hg, -⟩
  · cases hv
  · injection hv with e1 e2 e3
    injection e1 with e1
    subst e1
    exact hg
theorem spoil11_v (A : Option Addr) (c n base : Nat) (L : List Int) (w : World) (ho : w.ownsRow base 3 1 (.slice A n c) n (ci9 L)) (hn : n ≤ 1000) : Calls Try.prog 20 #[.slice A n c] w fun r w' => r = .returned (.tuple #[]) ∧ Fr11 (Xr11 A) w w' := by
  have HO := Lib.hid ho
  clear ho
  go_enter Try.func20, Try.ntmps20
  go_wp2_with fail
  go_loopw [2] (fun iv wr => ∃ (i : Nat) (L' : List Int), i ≤ n ∧ iv = .int .i64 i ∧ Hid (wr.ownsRow base 3 1 (.slice A n c) n (ci9 L')) ∧ Hid (Fr11 (Xr11 A) w wr)) (fun iv _ => n - (intOf iv).toNat)
  case atStart => exact ⟨0, L, by omega, rfl, HO, Lib.hid (Fr11.refl _ _)⟩
  case round =>
    clear HO
    obtain ⟨i, L', hi, rfl, HO, HF⟩ := hrel
    rename World => wr
    by_cases h1 : i < n
    · obtain ⟨g, hg⟩ : ∃ g, A = some ⟨g, 0, none⟩ := by
        obtain ⟨g, c', e⟩ := own_some11 HO.out (by omega)
        injection e with e1 e2 e3
        exact ⟨g, e1⟩
      subst hg
      have hl : L'.length = n := (Rn.of_own HO.out).2.symm
      have c0 := HO.out.cellAt i (by omega)
      have f0 := HO.out.frozenAt i
      rw [show (ci9 L')[i]? = some (.int .i64 (L'[i]'(by omega))) from by rw [ci9, List.getElem?_map, List.getElem?_eq_getElem (by omega)]; rfl] at c0
      have HO2 : Hid ((wr.setCell ⟨g, i, none⟩ (.int .i64 (-5))).ownsRow base 3 1 (.slice (some ⟨g, 0, none⟩) n c) n (ci9 (L'.set i (-5)))) := Lib.hid (by
        have h := (HO.out.stored i (.int .i64 (-5))).1
        rwa [show (ci9 L').set i (.int .i64 (-5)) = ci9 (L'.set i (-5)) from by rw [ci9, ci9, List.map_set]] at h)
      have HF2 := Lib.hid (HF.out.set (p := ⟨g, i, none⟩) (.inr ⟨_, rfl, rfl⟩) (.int .i64 (-5)))
      generalize L'[i]'(by omega) = z at c0
      clear hl
      go_wp2_with fail
      go_roundw
      case rel => exact ⟨i + 1, _, by omega, by go_num, HO2, HF2⟩
      case measure => simp [intOf]; omega
    · obtain rfl : n = i := by omega
      go_wp2_with fail
      go_end0
      exact ⟨rfl, HF.out⟩
set_option maxHeartbeats 8000000 in
theorem r11deep_v (y : Ma) (d : Md) (w : World) (hq : Hq w y d) (bs : d.s.length ≤ 1000) : Calls Try.prog 12 #[dv y d] w fun r w' => Ns11 w w' (de11 d) r := by
  have S0 := Lib.hid ((((Sx.start w).add (fQm y d) hq).mkD y d))
  obtain ⟨B, hB⟩ : ∃ B, w.heap.size = B := ⟨_, rfl⟩
  have HBB := Lib.hid hB
  rw [hB] at S0
  have hmk := madeN11 d.s.length bs
  clear hq
  go_enter Try.func12, Try.ntmps12
  go_upto_region 1 with (fail)
  change Code.wp _ _ _ _ (w.alloc (dcel y d))
  generalize w.alloc (dcel y d) = w1 at S0 ⊢
  clear hB
  have HGR := Lib.hid (r11order_v y d w1 S0.out.2.2.1 bs)
  obtain ⟨-, ⟨d0, d1, d2, d3, d4⟩, -⟩ := S0.out
  go_wp2_with fail
  refine HGR.out.mono ?_
  clear HGR d0 d1 d2 d3 d4
  rintro r w2 ⟨Ao, co, rfl, ho, hb⟩
  have hsz : w.heap.size ≤ w1.heap.size := S0.out.1.size
  have S2 := Lib.hid (S0.out.call hb)
  by_cases h0 : (ro11 d).2 = 0
  · obtain ⟨-, o, hoo, ho1⟩ := ro11_ok h0
    obtain ⟨hok, hol⟩ := or11_ok hoo
    have HOK := Lib.hid hok
    have HOL := Lib.hid hol
    have HRO := Lib.hid h0
    obtain ⟨r, hr, hrb⟩ := ro11_rk h0
    have HDT : Hid (de11 d = (rw11 d.s.length fun t => ((dp11 (e11 d) d.s.length d.s.length) t : Int), 0)) := Lib.hid (by rw [de11, if_pos h0]; rfl)
    have HDP : Hid (∀ k, k < d.s.length → (dp11 (e11 d) d.s.length d.s.length) k = mx11 (dp11 (e11 d) d.s.length d.s.length) (ck11 d k) + 1) := Lib.hid fun k hk => by
      rw [dp11_step hr hk hrb, mx11]
      exact foldl_mx11 _ _ 0
    have HDL : Hid (∀ k, k < d.s.length → (dp11 (e11 d) d.s.length d.s.length) k ≤ d.s.length) := Lib.hid fun k hk => by
      have h1 := dp11_le hr (f := d.s.length) hk
      have h2 := hrb k hk
      omega
    have hnl : (ro11 d).1.length = d.s.length := by rw [ho1, ns11, List.length_map, hol]
    have S3 := Lib.hid (S2.out.add (fRn Ao co (ns11 o)) (by have := (Rn.of_own ho).1; rwa [ho1] at this))
    have HBF := Lib.hid S3.out.1
    rw [hnl, h0]
    clear hb ho h0 ho1 hoo hok hol hr hrb hnl S0 S2
    dsimp only
    go_wp2_with fail
    obtain ⟨g, hg⟩ : ∃ g, w2.heap.size = g := ⟨_, rfl⟩
    have HG2 := Lib.hid hg
    rw [hg]
    have HR0 : Hid ((w2.alloc (.cells (Array.replicate d.s.length (Value.int .i64 0)) 3)).ownsRow w.heap.size 3 1 (.slice (some ⟨g, 0, none⟩) d.s.length d.s.length) d.s.length (ci9 (rw11 d.s.length (df11 (dp11 (e11 d) d.s.length d.s.length) o 0 0 0)))) := Lib.hid (by
      have := World.ownsRow_lit (base := w.heap.size) (size := 1) (e := 3) w2 (List.replicate d.s.length (Value.int .i64 0)).toArray d.s.length HBF.out.size (by unfold maxLen; omega) (by simp)
      rw [hg] at this
      have e : ci9 (rw11 d.s.length (df11 (dp11 (e11 d) d.s.length d.s.length) o 0 0 0)) = List.replicate d.s.length (Value.int .i64 0) := by
        apply List.ext_getElem?
        intro j
        by_cases hj : j < d.s.length
        · rw [rw11_at hj, List.getElem?_replicate_of_lt hj]
          simp [df11]
        · rw [List.getElem?_eq_none (by rw [ci9, List.length_map, rw11_len]; omega), List.getElem?_eq_none (by simpa using hj)]
      rw [e]
      simpa using this)
    have HB0 : Hid (Below g w2 (w2.alloc (.cells (Array.replicate d.s.length (Value.int .i64 0)) 3))) := Lib.hid ((Below.refl _ _).alloc (by omega) _)
    have hwg : w.heap.size ≤ g := by rw [← hg]; exact HBF.out.size
    have hs0 : g + 1 ≤ (w2.alloc (.cells (Array.replicate d.s.length (Value.int .i64 0)) 3)).heap.size := by rw [size1]; omega
    clear hg hmk
    generalize (w2.alloc (.cells (Array.replicate d.s.length (Value.int .i64 0)) 3)) = w3 at HR0 HB0 hs0 ⊢
    go_loopw [7] (fun iv wr => ∃ i : Nat, i ≤ d.s.length ∧ iv = .int .i64 i ∧ Hid (wr.ownsRow w.heap.size 3 1 (.slice (some ⟨g, 0, none⟩) d.s.length d.s.length) d.s.length (ci9 (rw11 d.s.length (df11 (dp11 (e11 d) d.s.length d.s.length) o i 0 0)))) ∧ Hid (Below g w2 wr) ∧ g + 1 ≤ wr.heap.size) (fun iv _ => d.s.length - (intOf iv).toNat)
    case atStart => exact ⟨0, by omega, rfl, HR0, HB0, hs0⟩
    case round =>
      clear HR0 HB0 hs0
      obtain ⟨i, hi, rfl, HR, HB, hs⟩ := hrel
      rename World => wr
      have SQ := Lib.hid (S3.out.call (by rw [HG2.out]; exact HB.out))
      by_cases h1 : i < d.s.length
      · obtain ⟨k, hk⟩ : ∃ k, o[i]? = some k := ⟨_, List.getElem?_eq_getElem (by rw [HOL.out]; exact h1)⟩
        have hkn : k < d.s.length := HOK.out.lt k (List.mem_of_getElem? hk)
        obtain ⟨ado, hAo, y0⟩ := SQ.out.2.1.at_ (ns11_at hk)
        subst hAo
        have HK := Lib.hid hk
        have HND : Hid ((o.take i).contains k = false) := Lib.hid (by
          rw [← Bool.not_eq_true, List.contains_iff_mem]
          intro hmem
          obtain ⟨q, hq⟩ := List.getElem?_of_mem hmem
          have hq1 := (List.getElem?_eq_some_iff.1 hq).1
          rw [List.length_take] at hq1
          rw [List.getElem?_take_of_lt (by omega)] at hq
          have hil := (List.getElem?_eq_some_iff.1 HK.out).1
          have h3 := List.pairwise_iff_getElem.1 HOK.out.nd q i (by omega) hil (by omega)
          exact h3 ((List.getElem?_eq_some_iff.1 hq).2.trans (List.getElem?_eq_some_iff.1 HK.out).2.symm))
        have HWH := Lib.hid (r11whom_v y d k wr SQ.out.2.2.2.1 bs)
        obtain ⟨W, hW⟩ : ∃ W, ck11 d k = W := ⟨_, rfl⟩
        have HW := Lib.hid hW
        rw [wh11_ck HRO.out hkn, hW] at HWH
        obtain ⟨kn, hkl⟩ : ∃ kn, (ns11 W).length = kn := ⟨_, rfl⟩
        have HKN := Lib.hid hkl
        have hkn9 : kn ≤ d.s.length := by have := ck11_len d k; rw [hW] at this; rw [← hkl, ns11, List.length_map]; exact this
        obtain ⟨-, -, ⟨d0, d1, d2, d3, d4⟩, -⟩ := SQ.out
        clear hk hW hkl
        go_wp2_with fail
        refine HWH.out.mono ?_
        rintro r w4 ⟨A9, c9, rfl, ho, hb⟩
        dsimp only
        rw [HKN.out]
        have HWN := Lib.hid (Rn.of_own ho).1
        have HBK : Hid (∀ ad : Addr, A9 = some ad → ¬ ad.block = g) := Lib.hid fun ad ha e => by have := own_blk11 ho ad ha; omega
        have hs4 := Nat.le_trans hs hb.size
        have HR4 := Lib.hid (own_below HR.out hb (Nat.le_refl _))
        have HB4 : Hid (Below g w2 w4) := Lib.hid (HB.out.trans (hb.mono (by omega)))
        clear HWH ho hb SQ y0 d0 d1 d2 d3 d4 HR HB
        have c0 := HR4.out.cellAt k (by omega)
        have f0 := HR4.out.frozenAt k
        rw [rw11_at hkn] at c0
        generalize df11 (dp11 (e11 d) d.s.length d.s.length) o i 0 0 k = z at c0
        have HR5 : Hid ((w4.setCell ⟨g, k, none⟩ (.int .i64 1)).ownsRow w.heap.size 3 1 (.slice (some ⟨g, 0, none⟩) d.s.length d.s.length) d.s.length (ci9 (rw11 d.s.length (df11 (dp11 (e11 d) d.s.length d.s.length) o i k (mx11 (dp11 (e11 d) d.s.length d.s.length) (W.take 0) + 1))))) := Lib.hid (by
          have h := (HR4.out.stored k (.int .i64 1)).1
          rw [rw11_set (f' := df11 (dp11 (e11 d) d.s.length d.s.length) o i k (mx11 (dp11 (e11 d) d.s.length d.s.length) (W.take 0) + 1)) (by rw [df11, if_neg (by rw [HND.out]; simp), if_pos rfl]; simp [mx11]) (fun q hq => by
            rw [df11, df11, if_neg hq]
            split
            · rfl
            · split <;> rfl)] at h
          exact h)
        have HF5 : Hid (Fr11 (fun j => j = g) w4 (w4.setCell ⟨g, k, none⟩ (.int .i64 1))) := Lib.hid ((Fr11.refl (fun j => j = g) _).set (p := ⟨g, k, none⟩) (.inr rfl) _)
        clear HR4
        go_wp2_with fail
        generalize w4.setCell ⟨g, k, none⟩ (.int .i64 1) = w5 at HR5 HF5 ⊢
        clear c0 f0
        go_loopw [11] (fun jv wq => ∃ j : Nat, j ≤ kn ∧ jv = .int .i64 j ∧ Hid (wq.ownsRow w.heap.size 3 1 (.slice (some ⟨g, 0, none⟩) d.s.length d.s.length) d.s.length (ci9 (rw11 d.s.length (df11 (dp11 (e11 d) d.s.length d.s.length) o i k (mx11 (dp11 (e11 d) d.s.length d.s.length) (W.take j) + 1))))) ∧ Hid (Fr11 (fun j => j = g) w4 wq)) (fun jv _ => kn - (intOf jv).toNat)
        case atStart => exact ⟨0, by omega, rfl, HR5, HF5⟩
        case round =>
          clear HR5 HF5
          obtain ⟨j, hj, rfl, HR, HF⟩ := hrel
          rename World => wq
          by_cases h2 : j < kn
          · obtain ⟨t, ht⟩ : ∃ t, W[j]? = some t := ⟨_, List.getElem?_eq_getElem (by rw [← HKN.out, ns11, List.length_map] at h2; exact h2)⟩
            obtain ⟨htn, hte⟩ := ck11_mem.1 (show t ∈ ck11 d k by rw [HW.out]; exact List.mem_of_getElem? ht)
            obtain ⟨mi, hmi, hmo⟩ := HOK.out.be i k HK.out t htn hte
            have hto : (o.take i).contains t = true := by
              rw [List.contains_iff_mem]
              exact List.mem_of_getElem? (i := mi) (by rw [List.getElem?_take_of_lt hmi]; exact hmo)
            obtain ⟨P, hP⟩ : ∃ P, (dp11 (e11 d) d.s.length d.s.length) t = P := ⟨_, rfl⟩
            have hP9 : P ≤ 1000 := by have := HDL.out t htn; omega
            have hM2 : mx11 (dp11 (e11 d) d.s.length d.s.length) (W.take (j + 1)) + 1 = max (mx11 (dp11 (e11 d) d.s.length d.s.length) (W.take j) + 1) (P + 1) := by rw [mx11_snoc ht, hP]; omega
            obtain ⟨M, hM⟩ : ∃ M, mx11 (dp11 (e11 d) d.s.length d.s.length) (W.take j) + 1 = M := ⟨_, rfl⟩
            rw [hM] at hM2 HR
            have c0 := HR.out.cellAt k (by omega)
            have c1 := HR.out.cellAt t (by omega)
            have f0 := HR.out.frozenAt k
            rw [rw11_at hkn, df11, if_neg (by rw [HND.out]; simp), if_pos rfl] at c0
            rw [rw11_at htn, df11, if_pos hto, hP] at c1
            obtain ⟨ad9, hA9, y0⟩ := (HF.out.rn HWN.out (fun ad ha _ => HBK.out ad ha)).at_ (ns11_at ht)
            subst hA9
            have HMX := Lib.hid hM2
            have ep : IntKind.i64.wrap ((P : Int) + 1) = (P : Int) + 1 := by simp [IntKind.wrap, IntKind.bits, IntKind.signed]; omega
            clear ht hte hmi hmo hto hP hM2 hM
            go_wp2_with fail
            refine wp_region_held_drew (S := fun w' => w'.cell? (ad9.add j) = some (.int .i64 (t : Int)) ∧ w'.cell? ⟨g, t, none⟩ = some (.int .i64 (P : Int)) ∧ w'.cell? ⟨g, k, none⟩ = some (.int .i64 (M : Int))) (by kernel_rfl) (⟨y0, c1, c0⟩) (fun hHeld => ?_)
            refine wpAnyH_take (i := 0) (v := ?_) rfl (by kernel_rfl) (by kernel_rfl) (by kernel_rfl) (fun _ _ _ h => h) (Or.inl ⟨by rfl, ?_⟩) (by assumption) ?_
            rotate_left 1
            · intro w _; go_simp; try with_reducible rfl
            try simp only [Act.put, List.getElem_toArray, List.getElem_cons_zero, List.getElem_cons_succ, List.setIfInBounds_toArray, List.set_cons_zero, List.set_cons_succ]
            refine wpAnyH_take (i := 1) (v := ?_) rfl (by kernel_rfl) (by kernel_rfl) (by kernel_rfl) (fun _ _ _ h => h) (Or.inl ⟨by rfl, ?_⟩) (by assumption) ?_
            rotate_left 1
            · intro w _; go_simp; try with_reducible rfl
            try simp only [Act.put, List.getElem_toArray, List.getElem_cons_zero, List.getElem_cons_succ, List.setIfInBounds_toArray, List.set_cons_zero, List.set_cons_succ]
            refine wpAnyH_take (i := 2) (v := ?_) rfl (by kernel_rfl) (by kernel_rfl) (by kernel_rfl) (fun _ _ _ h => h) (Or.inl ⟨by rfl, ?_⟩) (by assumption) ?_
            rotate_left 1
            · intro w _; go_simp; try with_reducible rfl
            try simp only [Act.put, List.getElem_toArray, List.getElem_cons_zero, List.getElem_cons_succ, List.setIfInBounds_toArray, List.set_cons_zero, List.set_cons_succ]
            refine wpAnyH_take (i := 3) (v := ?_) rfl (by kernel_rfl) (by kernel_rfl) (by kernel_rfl) (fun _ _ _ h => h) (Or.inl ⟨by rfl, ?_⟩) (by assumption) ?_
            rotate_left 1
            · intro w _; go_simp; try with_reducible rfl
            try simp only [Act.put, List.getElem_toArray, List.getElem_cons_zero, List.getElem_cons_succ, List.setIfInBounds_toArray, List.set_cons_zero, List.set_cons_succ]
            refine wpAnyH_take (i := 4) (v := ?_) rfl (by kernel_rfl) (by kernel_rfl) (by kernel_rfl) (fun _ _ _ h => h) (Or.inl ⟨by rfl, ?_⟩) (by assumption) ?_
            rotate_left 1
            · intro w hSw; (try dsimp only at hSw); obtain ⟨s0, s1, s2⟩ := hSw; go_simp; try with_reducible rfl
            try simp only [Act.put, List.getElem_toArray, List.getElem_cons_zero, List.getElem_cons_succ, List.setIfInBounds_toArray, List.set_cons_zero, List.set_cons_succ]
            refine wpAnyH_take (i := 5) (v := ?_) rfl (by kernel_rfl) (by kernel_rfl) (by kernel_rfl) (fun _ _ _ h => h) (Or.inl ⟨by rfl, ?_⟩) (by assumption) ?_
            rotate_left 1
            · intro w _; go_simp; try with_reducible rfl
            try simp only [Act.put, List.getElem_toArray, List.getElem_cons_zero, List.getElem_cons_succ, List.setIfInBounds_toArray, List.set_cons_zero, List.set_cons_succ]
            refine wpAnyH_take (i := 6) (v := ?_) rfl (by kernel_rfl) (by kernel_rfl) (by kernel_rfl) (fun _ _ _ h => h) (Or.inl ⟨by rfl, ?_⟩) (by assumption) ?_
            rotate_left 1
            · intro w hSw; (try dsimp only at hSw); obtain ⟨s0, s1, s2⟩ := hSw; go_simp; try with_reducible rfl
            try simp only [Act.put, List.getElem_toArray, List.getElem_cons_zero, List.getElem_cons_succ, List.setIfInBounds_toArray, List.set_cons_zero, List.set_cons_succ]
            refine wpAnyH_take (i := 7) (v := ?_) rfl (by kernel_rfl) (by kernel_rfl) (by kernel_rfl) (fun _ _ _ h => h) (Or.inl ⟨by rfl, ?_⟩) (by assumption) ?_
            rotate_left 1
            · intro w _; go_simp; try with_reducible rfl
            try simp only [Act.put, List.getElem_toArray, List.getElem_cons_zero, List.getElem_cons_succ, List.setIfInBounds_toArray, List.set_cons_zero, List.set_cons_succ]
            refine wpAnyH_take (i := 8) (v := ?_) rfl (by kernel_rfl) (by kernel_rfl) (by kernel_rfl) (fun _ _ _ h => h) (Or.inl ⟨by rfl, ?_⟩) (by assumption) ?_
            rotate_left 1
            · intro w _; go_simp; try with_reducible rfl
            try simp only [Act.put, List.getElem_toArray, List.getElem_cons_zero, List.getElem_cons_succ, List.setIfInBounds_toArray, List.set_cons_zero, List.set_cons_succ]
            refine wpAnyH_take (i := 9) (v := ?_) rfl (by kernel_rfl) (by kernel_rfl) (by kernel_rfl) (fun _ _ _ h => h) (Or.inl ⟨by rfl, ?_⟩) (by assumption) ?_
            rotate_left 1
            · intro w _; go_simp; try with_reducible rfl
            try simp only [Act.put, List.getElem_toArray, List.getElem_cons_zero, List.getElem_cons_succ, List.setIfInBounds_toArray, List.set_cons_zero, List.set_cons_succ]
            refine wpAnyH_take (i := 10) (v := ?_) rfl (by kernel_rfl) (by kernel_rfl) (by kernel_rfl) (fun _ _ _ h => h) (Or.inl ⟨by rfl, ?_⟩) (by assumption) ?_
            rotate_left 1
            · intro w _; go_simp; try with_reducible rfl
            try simp only [Act.put, List.getElem_toArray, List.getElem_cons_zero, List.getElem_cons_succ, List.setIfInBounds_toArray, List.set_cons_zero, List.set_cons_succ]
            refine wpAnyH_take (i := 11) (v := ?_) rfl (by kernel_rfl) (by kernel_rfl) (by kernel_rfl) (fun _ _ _ h => h) (Or.inl ⟨by rfl, ?_⟩) (by assumption) ?_
            rotate_left 1
            · intro w hSw; (try dsimp only at hSw); obtain ⟨s0, s1, s2⟩ := hSw; go_simp; try with_reducible rfl
            try simp only [Act.put, List.getElem_toArray, List.getElem_cons_zero, List.getElem_cons_succ, List.setIfInBounds_toArray, List.set_cons_zero, List.set_cons_succ]
            refine wpAnyH_take (i := 12) (v := ?_) rfl (by kernel_rfl) (by kernel_rfl) (by kernel_rfl) (fun _ _ _ h => h) (Or.inl ⟨by rfl, ?_⟩) (by assumption) ?_
            rotate_left 1
            · intro w _; go_simp; try with_reducible rfl
            try simp only [Act.put, List.getElem_toArray, List.getElem_cons_zero, List.getElem_cons_succ, List.setIfInBounds_toArray, List.set_cons_zero, List.set_cons_succ]
            refine wpAnyH_done (by kernel_rfl) ?_ _
            clear hHeld
            by_cases hgt : M < P + 1
            · have hgt2 : (M : Int) < (P : Int) + 1 := by omega
              have hgt3 : M ≤ P := by omega
              have HR6 : Hid ((wq.drew.setCell ⟨g, k, none⟩ (.int .i64 ((P : Int) + 1))).ownsRow w.heap.size 3 1 (.slice (some ⟨g, 0, none⟩) d.s.length d.s.length) d.s.length (ci9 (rw11 d.s.length (df11 (dp11 (e11 d) d.s.length d.s.length) o i k (mx11 (dp11 (e11 d) d.s.length d.s.length) (W.take (j + 1)) + 1))))) := Lib.hid (by
                have h := (HR.out.drew.stored k (.int .i64 ((P : Int) + 1))).1
                rw [rw11_set (f' := df11 (dp11 (e11 d) d.s.length d.s.length) o i k (mx11 (dp11 (e11 d) d.s.length d.s.length) (W.take (j + 1)) + 1)) (by rw [df11, if_neg (by rw [HND.out]; simp), if_pos rfl, HMX.out]; omega) (fun q hq => by
                  rw [df11, df11, if_neg hq, if_neg hq])] at h
                exact h)
              have HF6 : Hid (Fr11 (fun j => j = g) w4 (wq.drew.setCell ⟨g, k, none⟩ (.int .i64 ((P : Int) + 1)))) := Lib.hid ((HF.out.drewN 1).set (p := ⟨g, k, none⟩) (.inr rfl) _)
              go_wp2_with fail
              go_roundw
              case rel => exact ⟨j + 1, by omega, by go_num, HR6, HF6⟩
              case measure => simp [intOf]; omega
            · have hgt3 : ¬ M ≤ P := by omega
              have HR6 : Hid (wq.drew.ownsRow w.heap.size 3 1 (.slice (some ⟨g, 0, none⟩) d.s.length d.s.length) d.s.length (ci9 (rw11 d.s.length (df11 (dp11 (e11 d) d.s.length d.s.length) o i k (mx11 (dp11 (e11 d) d.s.length d.s.length) (W.take (j + 1)) + 1))))) := Lib.hid (by
                rw [HMX.out, Nat.max_eq_left (by omega)]
                exact HR.out.drew)
              have HF6 : Hid (Fr11 (fun j => j = g) w4 wq.drew) := Lib.hid (HF.out.drewN 1)
              go_wp2_with fail
              go_roundw
              case rel => exact ⟨j + 1, by omega, by go_num, HR6, HF6⟩
              case measure => simp [intOf]; omega
          · obtain rfl : kn = j := by omega
            have HR6 : Hid (wq.ownsRow w.heap.size 3 1 (.slice (some ⟨g, 0, none⟩) d.s.length d.s.length) d.s.length (ci9 (rw11 d.s.length (df11 (dp11 (e11 d) d.s.length d.s.length) o (i + 1) 0 0)))) := Lib.hid (by
              have hw : W.take kn = W := List.take_of_length_le (by rw [← HKN.out, ns11, List.length_map]; exact Nat.le_refl _)
              have e : rw11 d.s.length (df11 (dp11 (e11 d) d.s.length d.s.length) o (i + 1) 0 0) = rw11 d.s.length (df11 (dp11 (e11 d) d.s.length d.s.length) o i k (mx11 (dp11 (e11 d) d.s.length d.s.length) (W.take kn) + 1)) := rw11_congr fun t _ => by
                rw [hw, ← HW.out, ← HDP.out k hkn, df11, df11]
                by_cases ht : t = k
                · subst ht
                  rw [if_pos (by rw [List.contains_iff_mem, take_mem11 HK.out]; exact .inr rfl), if_neg (by rw [HND.out]; simp), if_pos rfl]
                · have : (o.take (i + 1)).contains t = (o.take i).contains t := by
                    rw [Bool.eq_iff_iff, List.contains_iff_mem, List.contains_iff_mem, take_mem11 HK.out]
                    exact ⟨fun h => h.resolve_right ht, .inl⟩
                  rw [this, if_neg ht]
                  split
                  · rfl
                  · split <;> rfl
              rw [e]
              exact HR.out)
            have HB6 : Hid (Below g w2 wq) := Lib.hid (HB4.out.trans (HF.out.below fun j hj => ⟨by omega, by omega⟩))
            have hs6 := Nat.le_trans hs4 HF.out.size
            clear HR HF
            go_wp2_with fail
            go_roundw
            case rel => exact ⟨i + 1, by omega, by go_num, HR6, HB6, hs6⟩
            case measure => simp [intOf]; omega
      · obtain rfl : i = d.s.length := by omega
        have HRF : Hid (wr.ownsRow w.heap.size 3 1 (.slice (some ⟨g, 0, none⟩) d.s.length d.s.length) d.s.length (ci9 (rw11 d.s.length fun t => ((dp11 (e11 d) d.s.length d.s.length) t : Int)))) := Lib.hid (by
          have e : rw11 d.s.length (df11 (dp11 (e11 d) d.s.length d.s.length) o d.s.length 0 0) = rw11 d.s.length fun t => ((dp11 (e11 d) d.s.length d.s.length) t : Int) := rw11_congr fun t ht => by
            rw [df11, List.take_of_length_le (by rw [HOL.out]; exact Nat.le_refl _), if_pos (by rw [List.contains_iff_mem]; exact all11 HOK.out.nd HOK.out.lt HOL.out t ht)]
          rw [← e]
          exact HR.out)
        have HBF2 := Lib.hid (HBF.out.trans (HB.out.mono hwg))
        clear SQ
        go_wp2_with fail
        go_ret2
        exact ⟨some ⟨g, 0, none⟩, d.s.length, by rw [HDT.out]; dsimp only; rw [rw11_len]; rfl, by rw [HDT.out]; dsimp only; rw [rw11_len]; exact HRF.out, HBF2.out⟩
  · obtain ⟨E, hE⟩ : ∃ E, (ro11 d).2 = E := ⟨_, rfl⟩
    have HE := Lib.hid (Ns11.err (w := w) (w' := w2) (T := de11 d) (e := E) (by rw [de11, if_neg h0, hE]) S2.out.1)
    rw [hE] at h0 ⊢
    have hb0 : (E != 0) = true := by simpa using h0
    clear hb ho S0 S2 hE
    go_wp2_with fail
    go_ret2
    exact HE.out
end Go.Proofs.Ytfbabbddiplgkaa
