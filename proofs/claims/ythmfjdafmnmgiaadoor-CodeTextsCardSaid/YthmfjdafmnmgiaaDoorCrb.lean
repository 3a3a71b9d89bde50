/-
  The bytes of code, by definition; what the reference's Bytes answers.
-/
import Derived.Test.YthmfjdafmnmgiaaDoorIns2
namespace Go.Proofs.YthmfjdafmnmgiaaDoor
open Go.RowKit
set_option linter.unusedSimpArgs false
set_option linter.unusedVariables false

/-- An instruction's bytes; code's. -/
def opr (x : Ins) : List Int := x.1 :: (if wdB x.1 then [x.2.1 % 256, x.2.1 / 256] else [])
def codB (L : List Ins) : List Int := (L.length : Int) :: L.flatMap opr
theorem Ri.c1 {w : World} {ad : Addr} {c i : Nat} {L : List Ins} (h : Ri w (some ad) c L) (hi : i < L.length) : w.cell? ⟨(ad.add (i * 3)).block, (ad.add (i * 3)).off + 1, none⟩ = some (.int .i64 (L[i]).2.1) := by
  obtain ⟨ad', e, _, h1, _⟩ := h.at_ hi
  injection e with e
  subst e
  exact h1
theorem wr_lo {x : Int} (h : 0 ≤ x) : IntKind.u8.wrap (x.tmod 256) = x % 256 := by
  rw [Int.tmod_eq_emod_of_nonneg h]
  simp [IntKind.wrap, IntKind.signed, IntKind.bits, go_sem]
theorem wr_hi {x : Int} (h : 0 ≤ x) (h2 : x ≤ 1024) : IntKind.u8.wrap (IntKind.i64.wrap (x.tdiv 256)) = x / 256 := by
  rw [Int.tdiv_eq_ediv_of_nonneg h]
  simp [IntKind.wrap, IntKind.signed, IntKind.bits, go_sem]
  omega
theorem Sx.ri {w w' : World} {A : Option Addr} {c : Nat} {L : List Ins} (h : Ri w A c L) (hb : Below w.heap.size w w') : Sx w w' [fT A c L] := ⟨hb, h.keep hb, trivial⟩
theorem opM_bd {x : Ins} (h : inM x = true) : 0 ≤ x.2.1 ∧ x.2.1 ≤ 1024 ∧ x.1 < 33 := by
  have h' : opM x.1 x.2.1 x.2.2 = true := h
  simp only [opM, Bool.and_eq_true, decide_eq_true_eq] at h'
  obtain ⟨⟨h1, h2⟩, _⟩ := h'
  have a1 : 0 ≤ opLo x.1 := by unfold opLo; split <;> omega
  have a2 : opHi x.1 ≤ 1024 ∧ (¬ x.1 < 33 → opHi x.1 = -1) := by unfold opHi; repeat' split
                                                                 all_goals omega
  by_cases h3 : x.1 < 33
  · omega
  · have := a2.2 h3; omega
set_option maxRecDepth 100000 in
set_option maxHeartbeats 2000000 in
theorem r5bytes_t (A : Option Addr) (c m : Nat) (L : List Ins) (w : World) (hr : Ri w A c L) (hm : L.length = m) (hc : codM L = true) : Calls Tryd.prog 9 #[.slice A m c] w fun e w' => ∃ A' c', e = .returned (.tuple #[.slice A' (codB L).length c', .int .i64 0]) ∧ w'.ownsRow w.heap.size 5 1 (.slice A' (codB L).length c') (codB L).length (cel (codB L)) ∧ Below w.heap.size w w' := by
  subst hm
  have hinfo := Tryd.info5
  rw [Option.map_eq_some_iff] at hinfo
  obtain ⟨i0, hi, hz⟩ := hinfo
  simp only [Prod.mk.injEq] at hz
  obtain ⟨hz0, hz1, hz2⟩ := hz
  have hc' := hc
  simp only [codM, Bool.and_eq_true, decide_eq_true_eq] at hc'
  obtain ⟨⟨hl1, hl2⟩, hall⟩ := hc'
  have HALL := Lib.hid (List.all_eq_true.1 hall)
  have HC := Lib.hid hc
  have HW := Lib.hid hr
  clear hc hall
  go_enter Tryd.func9, Tryd.ntmps9
  go_wp2_with fail
  refine (r5may_any A c _ L _ hr rfl).mono ?_
  rintro e w1 ⟨rfl, hb1⟩
  rw [HC.out]
  have S1 := Lib.hid (((Sx.start w).add (fT A c L) hr).call hb1)
  clear hb1 hr
  go_wp2_with fail
  have HO1 := Lib.hid (show (w1.alloc (.cells #[.int .u8 L.length] 5)).ownsRow w.heap.size 5 1 (.slice (some ⟨w1.heap.size, 0, none⟩) 1 1) 1 (cel [(L.length : Int)]) from
    own_base (World.ownsRow_lit (base := w1.heap.size) (e := 5) (size := 1) w1 #[.int .u8 L.length] 1 (Nat.le_refl _) (by unfold maxLen; simp) (by simp)) S1.out.1.size)
  have S2 := Lib.hid (S1.out.mk1 (.cells #[.int .u8 L.length] 5))
  have hmod : (L.length : Int) % 256 = L.length := by omega
  try rw [hmod]
  go_loopw [4, 5] (fun o i wr => ∃ (j : Nat) (A' : Option Addr) (c' : Nat) (X : List Int) (N : Nat), j ≤ L.length ∧ i = .int .i64 j ∧ o = .slice A' N c' ∧ N ≤ 1 + 3 * j ∧ Hid (X = (L.length : Int) :: (L.take j).flatMap opr ∧ X.length = N ∧ wr.ownsRow w.heap.size 5 1 (.slice A' N c') N (cel X)) ∧ Hid (Sx w wr [fT A c L]))
    (fun _ i _ => L.length - (intOf i).toNat)
  case atStart => exact ⟨0, _, _, [(L.length : Int)], 1, by omega, rfl, rfl, by omega, Lib.hid ⟨by simp, rfl, HO1.out⟩, S2⟩
  case round =>
    obtain ⟨j, A', c', X, N, hj, rfl, rfl, hN, HX, S3⟩ := hrel
    clear HO1 S1 S2
    by_cases h1 : j < L.length
    · obtain ⟨ad, rfl, x0, x1, x2⟩ := S3.out.2.1.at_ h1
      have hok := HW.out.1 _ (List.getElem_mem h1)
      obtain ⟨g1, g2, g3⟩ := opM_bd (HALL.out _ (List.getElem_mem h1))
      have hb0 := hok.1
      have hbb : Byt [L[j].2.1 % 256, L[j].2.1 / 256] := by
        intro y hy
        simp at hy
        rcases hy with rfl | rfl <;> omega
      have HR1 := Lib.hid (rd_one wr L[j].1 hb0)
      have HO3 := Lib.hid (own_below HX.out.2.2 (new1 (a := .cells #[.int .u8 L[j].1] 5)) (Nat.le_refl _))
      have HB3 := Lib.hid (S3.out.mk1 (.cells #[.int .u8 L[j].1] 5)).1
      have HX1 := Lib.hid HX.out.1
      have HX2 := Lib.hid HX.out.2.1
      clear HX hok
      go_wp2_with (at_builtin; refine wpList_append_rd _ rfl _ _ 24 rfl w.heap.size 5 i0 Tryd.underlying24 hi hz0 hz1 hz2 _ N X rfl HO3.out _ 1 1 [L[j].1] rfl HR1.out rfl (by omega) HB3.out.size ?_)
      intro A2 c2 w4 ho4 hg4 hb4 _
      have HO4 := Lib.hid ho4
      have S4 := Lib.hid (Sx.ri HW.out (HB3.out.trans hb4))
      clear ho4 hg4 hb4 HO3 HB3 HR1 S3 x0 x1 x2
      obtain ⟨ad', ea, x0, x1, x2⟩ := S4.out.2.1.at_ h1
      injection ea with ea
      subst ea
      go_wp2_with fail
      refine (wide_any _ _).mono ?_
      rintro e w5 ⟨rfl, rfl⟩
      cases hv : wdB L[j].1 with
      | true =>
        have e1 := wr_lo g1
        have e2 := wr_hi g1 g2
        go_upto_region 9 with (fail)
        clear x0 x1 x2
        refine wp_region_held_drew (S := fun w' => Hid (Sx w w' [fT (some ad) c L])) (by kernel_rfl) (Hsx.drew S4) (fun hHeld => ?_)
        refine wpAnyH_take (i := 0) (v := ?_) rfl (by kernel_rfl) (by kernel_rfl) (by kernel_rfl) (fun _ _ _ h => h) (Or.inl ⟨by rfl, ?_⟩) (by assumption) ?_
        rotate_left 1
        · intro w _; go_simp; try with_reducible rfl
        try simp only [Act.put, List.getElem_toArray, List.getElem_cons_zero, List.getElem_cons_succ, List.setIfInBounds_toArray, List.set_cons_zero, List.set_cons_succ]
        refine wpAnyH_take (i := 1) (v := ?_) rfl (by kernel_rfl) (by kernel_rfl) (by kernel_rfl) (fun _ _ _ h => h) (Or.inl ⟨by rfl, ?_⟩) (by assumption) ?_
        rotate_left 1
        · intro w _; go_simp; try with_reducible rfl
        try simp only [Act.put, List.getElem_toArray, List.getElem_cons_zero, List.getElem_cons_succ, List.setIfInBounds_toArray, List.set_cons_zero, List.set_cons_succ]
        refine wpAnyH_take (i := 2) (v := ?_) rfl (by kernel_rfl) (by kernel_rfl) (by kernel_rfl) (fun _ _ _ h => h) (Or.inl ⟨by rfl, ?_⟩) (by assumption) ?_
        rotate_left 1
        · intro w _; go_simp; try with_reducible rfl
        try simp only [Act.put, List.getElem_toArray, List.getElem_cons_zero, List.getElem_cons_succ, List.setIfInBounds_toArray, List.set_cons_zero, List.set_cons_succ]
        refine wpAnyH_take (i := 3) (v := ?_) rfl (by kernel_rfl) (by kernel_rfl) (by kernel_rfl) (fun _ _ _ h => h) (Or.inl ⟨by rfl, ?_⟩) (by assumption) ?_
        rotate_left 1
        · intro w _; go_simp; try with_reducible rfl
        try simp only [Act.put, List.getElem_toArray, List.getElem_cons_zero, List.getElem_cons_succ, List.setIfInBounds_toArray, List.set_cons_zero, List.set_cons_succ]
        refine wpAnyH_take (i := 4) (v := ?_) rfl (by kernel_rfl) (by kernel_rfl) (by kernel_rfl) (fun _ _ _ h => h) (Or.inl ⟨by rfl, ?_⟩) (by assumption) ?_
        rotate_left 1
        · intro w _; go_simp; try with_reducible rfl
        try simp only [Act.put, List.getElem_toArray, List.getElem_cons_zero, List.getElem_cons_succ, List.setIfInBounds_toArray, List.set_cons_zero, List.set_cons_succ]
        refine wpAnyH_take (i := 5) (v := ?_) rfl (by kernel_rfl) (by kernel_rfl) (by kernel_rfl) (fun _ _ _ h => h) (Or.inl ⟨by rfl, ?_⟩) (by assumption) ?_
        rotate_left 1
        · intro w hSw; (try dsimp only at hSw); have s1 := Ri.c1 hSw.out.2.1 h1; go_simp; try with_reducible rfl
        try simp only [Act.put, List.getElem_toArray, List.getElem_cons_zero, List.getElem_cons_succ, List.setIfInBounds_toArray, List.set_cons_zero, List.set_cons_succ]
        refine wpAnyH_take (i := 6) (v := ?_) rfl (by kernel_rfl) (by kernel_rfl) (by kernel_rfl) (fun _ _ _ h => h) (Or.inl ⟨by rfl, ?_⟩) (by assumption) ?_
        rotate_left 1
        · intro w _; go_simp; try with_reducible rfl
        try simp only [Act.put, List.getElem_toArray, List.getElem_cons_zero, List.getElem_cons_succ, List.setIfInBounds_toArray, List.set_cons_zero, List.set_cons_succ]
        refine wpAnyH_take (i := 7) (v := ?_) rfl (by kernel_rfl) (by kernel_rfl) (by kernel_rfl) (fun _ _ _ h => h) (Or.inl ⟨by rfl, ?_⟩) (by assumption) ?_
        rotate_left 1
        · intro w hSw; (try dsimp only at hSw); obtain ⟨-⟩ := hSw; go_simp; try with_reducible rfl
        try simp only [Act.put, List.getElem_toArray, List.getElem_cons_zero, List.getElem_cons_succ, List.setIfInBounds_toArray, List.set_cons_zero, List.set_cons_succ]
        refine wpAnyH_take (i := 8) (v := ?_) rfl (by kernel_rfl) (by kernel_rfl) (by kernel_rfl) (fun _ _ _ h => h) (Or.inl ⟨by rfl, ?_⟩) (by assumption) ?_
        rotate_left 1
        · intro w _; go_simp; try with_reducible rfl
        try simp only [Act.put, List.getElem_toArray, List.getElem_cons_zero, List.getElem_cons_succ, List.setIfInBounds_toArray, List.set_cons_zero, List.set_cons_succ]
        refine wpAnyH_take (i := 9) (v := ?_) rfl (by kernel_rfl) (by kernel_rfl) (by kernel_rfl) (fun _ _ _ h => h) (Or.inl ⟨by rfl, ?_⟩) (by assumption) ?_
        rotate_left 1
        · intro w _; go_simp; try with_reducible rfl
        try simp only [Act.put, List.getElem_toArray, List.getElem_cons_zero, List.getElem_cons_succ, List.setIfInBounds_toArray, List.set_cons_zero, List.set_cons_succ]
        refine wpAnyH_take (i := 10) (v := ?_) rfl (by kernel_rfl) (by kernel_rfl) (by kernel_rfl) (fun _ _ _ h => h) (Or.inl ⟨by rfl, ?_⟩) (by assumption) ?_
        rotate_left 1
        · intro w _; go_simp; try with_reducible rfl
        try simp only [Act.put, List.getElem_toArray, List.getElem_cons_zero, List.getElem_cons_succ, List.setIfInBounds_toArray, List.set_cons_zero, List.set_cons_succ]
        refine wpAnyH_take (i := 11) (v := ?_) rfl (by kernel_rfl) (by kernel_rfl) (by kernel_rfl) (fun _ _ _ h => h) (Or.inl ⟨by rfl, ?_⟩) (by assumption) ?_
        rotate_left 1
        · intro w _; go_simp; try with_reducible rfl
        try simp only [Act.put, List.getElem_toArray, List.getElem_cons_zero, List.getElem_cons_succ, List.setIfInBounds_toArray, List.set_cons_zero, List.set_cons_succ]
        refine wpAnyH_take (i := 12) (v := ?_) rfl (by kernel_rfl) (by kernel_rfl) (by kernel_rfl) (fun _ _ _ h => h) (Or.inl ⟨by rfl, ?_⟩) (by assumption) ?_
        rotate_left 1
        · intro w hSw; (try dsimp only at hSw); have s1 := Ri.c1 hSw.out.2.1 h1; go_simp; try with_reducible rfl
        try simp only [Act.put, List.getElem_toArray, List.getElem_cons_zero, List.getElem_cons_succ, List.setIfInBounds_toArray, List.set_cons_zero, List.set_cons_succ]
        refine wpAnyH_take (i := 13) (v := ?_) rfl (by kernel_rfl) (by kernel_rfl) (by kernel_rfl) (fun _ _ _ h => h) (Or.inl ⟨by rfl, ?_⟩) (by assumption) ?_
        rotate_left 1
        · intro w _; go_simp; try with_reducible rfl
        try simp only [Act.put, List.getElem_toArray, List.getElem_cons_zero, List.getElem_cons_succ, List.setIfInBounds_toArray, List.set_cons_zero, List.set_cons_succ]
        refine wpAnyH_take (i := 14) (v := ?_) rfl (by kernel_rfl) (by kernel_rfl) (by kernel_rfl) (fun _ _ _ h => h) (Or.inl ⟨by rfl, ?_⟩) (by assumption) ?_
        rotate_left 1
        · intro w hSw; (try dsimp only at hSw); obtain ⟨-⟩ := hSw; go_simp; try with_reducible rfl
        try simp only [Act.put, List.getElem_toArray, List.getElem_cons_zero, List.getElem_cons_succ, List.setIfInBounds_toArray, List.set_cons_zero, List.set_cons_succ]
        refine wpAnyH_ready (rs := [15]) (by kernel_rfl) (by simp) ?_
        refine AllReadyH.cons rfl (fun K hK => ?_) AllReadyH.nil
        go_simp
        have HR := Lib.hid (Rd.drewN (rd_lit w4 [L[j].2.1 % 256, L[j].2.1 / 256] hbb (by unfold maxLen; simp)) 1)
        have HO5 := Lib.hid (own_below HO4.out (below_draws (new1 (a := .cells #[.int .u8 (L[j].2.1 % 256), .int .u8 (L[j].2.1 / 256)] 5)) 1) (Nat.le_refl _))
        refine hK.out _ _ (Lib.hid (Sx.ri HW.out (S4.out.1.trans (below_draws ((Below.refl _ _).alloc S4.out.1.size _) 1)))) (fun hHeld => ?_)
        clear hK K
        try simp only [Act.put, List.getElem_toArray, List.getElem_cons_zero, List.getElem_cons_succ, List.setIfInBounds_toArray, List.set_cons_zero, List.set_cons_succ]
        refine wpAnyH_ready (rs := [16]) (by kernel_rfl) (by simp) ?_
        refine AllReadyH.cons rfl (fun K hK => ?_) AllReadyH.nil
        refine step_append_rd rfl (.tmp 33) (.tmp 48) 24 rfl w.heap.size 5 i0 Tryd.underlying24 hi hz0 hz1 hz2 _ (N + 1) (X ++ [L[j].1]) rfl HO5.out _ 2 2 [L[j].2.1 % 256, L[j].2.1 / 256] rfl HR.out rfl (by omega) (hHeld.out.1.size) ?_
        intro A6 c6 w6 ho6 hb6
        have HO6 := Lib.hid ho6
        clear ho6
        refine hK.out _ _ (Lib.hid (Sx.ri HW.out (hHeld.out.1.trans hb6))) (fun hHeld => ?_)
        clear hK K
        try simp only [Act.put, List.getElem_toArray, List.getElem_cons_zero, List.getElem_cons_succ, List.setIfInBounds_toArray, List.set_cons_zero, List.set_cons_succ]
        refine wpAnyH_take (i := 17) (v := ?_) rfl (by kernel_rfl) (by kernel_rfl) (by kernel_rfl) (fun _ _ _ h => h) (Or.inl ⟨by rfl, ?_⟩) (by assumption) ?_
        rotate_left 1
        · intro w _; go_simp; try with_reducible rfl
        try simp only [Act.put, List.getElem_toArray, List.getElem_cons_zero, List.getElem_cons_succ, List.setIfInBounds_toArray, List.set_cons_zero, List.set_cons_succ]
        refine wpAnyH_done (by kernel_rfl) ?_ _
        have HE := hHeld
        clear hHeld
        have HN : Hid (X ++ [L[j].1] ++ [L[j].2.1 % 256, L[j].2.1 / 256] = (L.length : Int) :: (L.take (j + 1)).flatMap opr) := by
          rw [Hid, HX1.out, List.take_add_one, List.getElem?_eq_getElem h1, Option.toList_some, List.flatMap_append, List.flatMap_cons, List.flatMap_nil, List.append_nil, opr, hv, if_pos rfl, List.append_assoc, List.cons_append]
          rfl
        go_wp2_with fail
        go_roundw
        case rel => exact ⟨j + 1, A6, c6, _, N + 1 + 2, by omega, by go_num, rfl, by omega, Lib.hid ⟨HN.out, by rw [List.length_append, List.length_append, HX2.out]; rfl, HO6.out⟩, HE⟩
        case measure => simp [intOf]; omega
      | false =>
        have HN : Hid (X ++ [L[j].1] = (L.length : Int) :: (L.take (j + 1)).flatMap opr) := by
          rw [Hid, HX1.out, List.take_add_one, List.getElem?_eq_getElem h1, Option.toList_some, List.flatMap_append, List.flatMap_cons, List.flatMap_nil, List.append_nil, opr, hv, if_neg (by decide), List.cons_append]
        go_wp2_with fail
        go_roundw
        case rel => exact ⟨j + 1, A2, c2, _, N + 1, by omega, by go_num, rfl, by omega, Lib.hid ⟨HN.out, by rw [List.length_append, HX2.out]; rfl, HO4.out⟩, S4⟩
        case measure => simp [intOf]; omega
    · obtain rfl : j = L.length := by omega
      have hx := HX.out
      rw [List.take_length, ← codB] at hx
      obtain ⟨rfl, rfl, ho⟩ := hx
      have HO := Lib.hid ho
      clear ho HX
      go_wp2_with fail
      go_ret2
      exact ⟨A', c', rfl, HO.out, S3.out.1⟩
theorem r5bytes_f (A : Option Addr) (c m : Nat) (L : List Ins) (w : World) (hr : Ri w A c L) (hm : L.length = m) (hc : codM L = false) : Calls Tryd.prog 9 #[.slice A m c] w fun e w' => e = .returned (.tuple #[.slice none 0 0, .int .i64 40]) ∧ Below w.heap.size w w' := by
  subst hm
  have HC := Lib.hid hc
  clear hc
  go_enter Tryd.func9, Tryd.ntmps9
  go_wp2_with fail
  refine (r5may_any A c _ L _ hr rfl).mono ?_
  rintro e w1 ⟨rfl, hb1⟩
  rw [HC.out]
  go_wp2_with fail
  go_ret2
  exact ⟨rfl, hb1⟩
end Go.Proofs.YthmfjdafmnmgiaaDoor
