/-
  The law FlowTells.
-/
import Derived.Test.YtfchdggefedgoaaFv
import Derived.Test.YtfchdggefedgoaaFy
namespace Go.Proofs.Ytfchdggefedgoaa
open Go.RowKit
set_option maxRecDepth 100000
set_option linter.unusedSimpArgs false
set_option linter.unusedVariables false

theorem set_later {xs ys : List Value} {i : Nat} (v : Value) (h : ∀ j, i * 3 ≤ j → xs[j]? = ys[j]?) : ∀ j, (i + 1) * 3 ≤ j → (xs.set (i * 3) v)[j]? = ys[j]? := fun j hj => by
  rw [List.getElem?_set, if_neg (by omega)]
  exact h j (by omega)
theorem own_at {w : World} {base e size n c : Nat} {A : Option Addr} {xs : List Value} (h : w.ownsRow base e size (.slice A n c) n xs) (hn : 0 < n) : ∃ g, A = some ⟨g, 0, none⟩ ∧ base ≤ g ∧ g < w.heap.size := by
  rcases h.2 with ⟨hv, h0⟩ | ⟨g, cap, cur, hv, hg, hb, _⟩
  · injection hv with e1 e2 e3
    omega
  · injection hv with e1 e2 e3
    exact ⟨g, e1, hg, (Array.getElem?_eq_some_iff.1 hb).1⟩
set_option maxHeartbeats 16000000 in
theorem tells9_walk (A : Option Addr) (c m : Nat) (L : List Ins) (w : World) (hr : Ri w A c L) (hm : L.length = m) :
    Calls Try.prog 3 #[.slice A m c] w fun r w' => r = .returned (.bool true) ∧ Below w.heap.size w w' := by
  have HLm := Lib.hid hm
  have HR := Lib.hid hr
  have hml : m ≤ 9223372036854775807 := by have := hr.len; omega
  clear hr hm
  by_cases h3 : 300 < m
  · go_enter Try.func3, Try.ntmps3
    go_wp2_with fail
    go_ret
    exact ⟨rfl, Below.refl _ _⟩
  have HCP := Lib.hid (rcopy_any A c m L w HR.out HLm.out (by omega))
  have HL1 := fun w' h => Lib.hid (r9loops_v A c m L w' h HLm.out)
  have HT1 := fun w' h => Lib.hid (r9times_v A c m L w' h HLm.out)
  have HL2 := fun A' c' w' h => Lib.hid (kfloops A' c' m L w' h HLm.out (by omega))
  have HT2 := fun A' c' w' h => Lib.hid (ftimes_v A' c' m L w' h HLm.out (by omega))
  have HC2 := fun A' c' w' h => Lib.hid (kfcheck A' c' m L w' h HLm.out (by omega))
  generalize flE9 L = E at HL1 HT1 HL2 HT2 HC2
  generalize flL9 L = FL at HL1 HL2
  generalize flT9 L = T at HT1 HT2
  obtain ⟨n, hn⟩ : ∃ n, FL.length = n := ⟨_, rfl⟩
  obtain ⟨q, hq⟩ : ∃ q, T.length = q := ⟨_, rfl⟩
  rw [hn] at HL1 HL2
  rw [hq] at HT1 HT2
  have HN := Lib.hid hn
  have HQ := Lib.hid hq
  clear hn hq
  go_enter Try.func3, Try.ntmps3
  go_wp2_with fail
  refine HCP.out.mono ?_
  rintro r w1 ⟨Am, cm, rfl, ho, hb⟩
  have HM1 : Hid (Ri w1 Am cm L) := Lib.hid (Ri.of_own ho HR.out.1).1
  have HB1 : Hid (Below w.heap.size w w1) := Lib.hid hb
  clear HCP ho hb
  have P1 := HL1 w1 (HR.out.keep HB1.out)
  clear HL1
  go_wp2_with fail
  refine P1.out.mono ?_
  rintro r w2 ⟨A1, c1, rfl, ho, hb⟩
  have HJ2 : Hid (Rj w2 A1 c1 FL) := Lib.hid (Rj.of_own ho (fun _ _ => trivial)).1
  have HM2 : Hid (Ri w2 Am cm L) := Lib.hid (HM1.out.keep hb)
  have HB2 : Hid (Below w.heap.size w w2) := Lib.hid (below_on HB1.out hb)
  clear ho hb P1 HM1 HB1
  have P2 := HT1 w2 (HR.out.keep HB2.out)
  clear HT1
  go_wp2_with fail
  refine P2.out.mono ?_
  rintro r w3 ⟨A2, c2, rfl, ho, hb⟩
  have HN3 : Hid (Rn w3 A2 c2 T) := Lib.hid (Rn.of_own ho).1
  have HJ3 : Hid (Rj w3 A1 c1 FL) := Lib.hid (HJ2.out.keep hb)
  have HM3 : Hid (Ri w3 Am cm L) := Lib.hid (HM2.out.keep hb)
  have HB3 : Hid (Below w.heap.size w w3) := Lib.hid (below_on HB2.out hb)
  have hnl : n ≤ 9223372036854775807 := by
    have := HJ3.out.len
    have := HN.out
    omega
  have hql : q ≤ 9223372036854775807 := by
    have h := HN3.out
    have := h.1
    have := h.2.1
    unfold maxLen at this
    have := HQ.out
    omega
  clear ho hb P2 HM2 HB2 HJ2
  go_wp2_with fail
  go_loopw [8] (fun tv wq => ∃ t : Nat, t ≤ 2 ∧ tv = .int .i64 t ∧ Hid (Ri wq Am cm L) ∧ Hid (Rj wq A1 c1 FL) ∧ Hid (Rn wq A2 c2 T) ∧ Hid (Below w.heap.size w wq)) (fun tv _ => 2 - (intOf tv).toNat)
  case atStart => exact ⟨0, by omega, rfl, HM3, HJ3, HN3, HB3⟩
  case round =>
    clear HM3 HJ3 HN3 HB3
    obtain ⟨t, ht, rfl, HM, HJ, HNN, HB⟩ := hrel
    rename World => wo
    by_cases h1 : t < 2
    · have P1 := HL2 Am cm wo HM.out
      go_wp2_with fail
      refine P1.out.mono ?_
      rintro r w4 ⟨A3, c3, rfl, ho, hb⟩
      have HX4 := Lib.hid ho
      have HB4 := Lib.hid hb
      have HM4 : Hid (Ri w4 Am cm L) := Lib.hid (HM.out.keep hb)
      have HGX : Hid (∀ g, A3 = some ⟨g, 0, none⟩ → g < w4.heap.size) := Lib.hid fun g hg => (ho.lt g (by rw [hg]; rfl)).2
      clear ho hb P1
      have P2 := HT2 Am cm w4 HM4.out
      go_wp2_with fail
      refine P2.out.mono ?_
      rintro r w5 ⟨A4, c4, rfl, ho, hb⟩
      obtain ⟨b5, hb5⟩ : ∃ b, w4.heap.size = b := ⟨_, rfl⟩
      rw [hb5] at ho HGX
      have HNO5 := Lib.hid ho
      have HX5 := Lib.hid (own_below HX4.out hb (Nat.le_refl _))
      have HB5 : Hid (Below wo.heap.size wo w5) := Lib.hid (below_on HB4.out hb)
      have HM5 : Hid (Ri w5 Am cm L) := Lib.hid (HM4.out.keep hb)
      have hob : wo.heap.size ≤ b5 := by rw [← hb5]; exact HB4.out.size
      clear ho hb P2 HX4 HM4 HB4 hb5
      have P3 := HC2 Am cm w5 HM5.out
      go_wp2_with fail
      refine P3.out.mono ?_
      rintro r w6 ⟨rfl, hb⟩
      have HNO6 := Lib.hid (own_below HNO5.out hb (Nat.le_refl _))
      have HX6 := Lib.hid (own_below HX5.out hb (Nat.le_refl _))
      have HB6 : Hid (Below wo.heap.size wo w6) := Lib.hid (below_on HB5.out hb)
      have HM6 : Hid (Ri w6 Am cm L) := Lib.hid (HM5.out.keep hb)
      clear hb P3 HNO5 HX5 HB5 HM5
      have P4 : Hid (Calls Try.prog 14 #[.slice A4 q c4, .slice A2 q c2] w6 fun r w' => r = .returned (.bool true) ∧ Below w6.heap.size w6 w') := Lib.hid (by
        have h := sameints9_v A4 A2 c4 q c2 q T T w6 (Rn.of_own HNO6.out).1 HQ.out (HNN.out.keep HB6.out) HQ.out
        simpa using h)
      go_wp2_with fail
      refine P4.out.mono ?_
      rintro r w7 ⟨rfl, hb⟩
      have HNO7 := Lib.hid (own_below HNO6.out hb (Nat.le_refl _))
      have HX7 := Lib.hid (own_below HX6.out hb (Nat.le_refl _))
      have HB7 : Hid (Below wo.heap.size wo w7) := Lib.hid (below_on HB6.out hb)
      have HM7 : Hid (Ri w7 Am cm L) := Lib.hid (HM6.out.keep hb)
      clear hb P4 HNO6 HX6 HB6 HM6
      have P5 : Hid (Calls Try.prog 15 #[.slice Am m cm, .slice A m c] w7 fun r w' => r = .returned (.bool true) ∧ Below w7.heap.size w7 w') := Lib.hid (by
        have h := r5same_any Am A cm c m m L L w7 HM7.out (HR.out.keep (below_on HB.out HB7.out)) HLm.out HLm.out
        simpa using h)
      go_wp2_with fail
      refine P5.out.mono ?_
      rintro r w8 ⟨rfl, hb⟩
      have HNO8 := Lib.hid (own_below HNO7.out hb (Nat.le_refl _))
      have HX8 := Lib.hid (own_below HX7.out hb (Nat.le_refl _))
      have HB8 : Hid (Below wo.heap.size wo w8) := Lib.hid (below_on HB7.out hb)
      clear hb P5 HNO7 HX7 HB7 HM7
      go_wp2_with fail
      go_loopw [13] (fun iv wq => ∃ (i : Nat) (xs : List Value), i ≤ n ∧ iv = .int .i64 i ∧ Hid (∀ j, i * 3 ≤ j → xs[j]? = (cej FL)[j]?) ∧ Hid (wq.ownsRow wo.heap.size 40 3 (.slice A3 n c3) n xs) ∧ Hid (wq.ownsRow b5 3 1 (.slice A4 q c4) q (ci9 T)) ∧ Hid (Below wo.heap.size wo wq)) (fun iv _ => n - (intOf iv).toNat)
      case atStart => exact ⟨0, _, by omega, rfl, Lib.hid (fun _ _ => rfl), HX8, HNO8, HB8⟩
      case round =>
        clear HX8 HNO8 HB8
        obtain ⟨i, xs, hi, rfl, HXS, HX, HNO, HBW⟩ := hrel
        by_cases h2 : i < n
        · obtain ⟨⟨f, t', z⟩, hx⟩ : ∃ x, FL[i]? = some x := ⟨_, List.getElem?_eq_getElem (by rw [HN.out]; exact h2)⟩
          obtain ⟨x0, x1, x2⟩ := cej_at hx
          obtain ⟨ad, hA, k0, k1, k2⟩ := (HJ.out.keep HBW.out).cl9 hx
          subst hA
          obtain ⟨g, hg, hBg, hgs⟩ := own_at HX.out (by omega)
          have hgb := HGX.out g hg
          subst hg
          have y0 := HX.out.cellAt (i * 3) (by omega)
          have y1 := HX.out.cellAt (i * 3 + 1) (by omega)
          have y2 := HX.out.cellAt (i * 3 + 2) (by omega)
          rw [HXS.out _ (by omega), x0] at y0
          rw [HXS.out _ (by omega), x1] at y1
          rw [HXS.out _ (by omega), x2] at y2
          have yf := HX.out.frozenAt (i * 3)
          simp only at y0 y1 y2
          clear x0 x1 x2 hx
          have SR : Hid (Below wr.heap.size wr wr.drew ∧ wr.drew.cell? ⟨g, i * 3, none⟩ = some (.int .i64 f) ∧ wr.drew.cell? ⟨g, i * 3 + 1, none⟩ = some (.int .i64 t') ∧ wr.drew.cell? ⟨g, i * 3 + 2, none⟩ = some (.int .i64 z) ∧ wr.drew.cell? (ad.add (i * 3)) = some (.int .i64 f) ∧ wr.drew.cell? ⟨(ad.add (i * 3)).block, (ad.add (i * 3)).off + 1, none⟩ = some (.int .i64 t') ∧ wr.drew.cell? ⟨(ad.add (i * 3)).block, (ad.add (i * 3)).off + 2, none⟩ = some (.int .i64 z)) := Lib.hid ⟨below_draws (Below.refl _ _) 1, y0, y1, y2, k0, k1, k2⟩
          go_upto_region 16 with (fail)
          refine wp_region_held_drew (S := fun w' => Hid (Below wr.heap.size wr w' ∧ w'.cell? ⟨g, i * 3, none⟩ = some (.int .i64 f) ∧ w'.cell? ⟨g, i * 3 + 1, none⟩ = some (.int .i64 t') ∧ w'.cell? ⟨g, i * 3 + 2, none⟩ = some (.int .i64 z) ∧ w'.cell? (ad.add (i * 3)) = some (.int .i64 f) ∧ w'.cell? ⟨(ad.add (i * 3)).block, (ad.add (i * 3)).off + 1, none⟩ = some (.int .i64 t') ∧ w'.cell? ⟨(ad.add (i * 3)).block, (ad.add (i * 3)).off + 2, none⟩ = some (.int .i64 z))) (by kernel_rfl) (SR) (fun hHeld => ?_)
          refine wpAnyH_take (i := 0) (v := ?_) rfl (by kernel_rfl) (by kernel_rfl) (by kernel_rfl) (fun _ _ _ h => h) (Or.inl ⟨by rfl, ?_⟩) (by assumption) ?_
          rotate_left 1
          · intro w _; go_simp; try with_reducible rfl
          try simp only [Act.put, List.getElem_toArray, List.getElem_cons_zero, List.getElem_cons_succ, List.setIfInBounds_toArray, List.set_cons_zero, List.set_cons_succ]
          refine wpAnyH_take (i := 1) (v := ?_) rfl (by kernel_rfl) (by kernel_rfl) (by kernel_rfl) (fun _ _ _ h => h) (Or.inl ⟨by rfl, ?_⟩) (by assumption) ?_
          rotate_left 1
          · intro w _; go_simp; try with_reducible rfl
          try simp only [Act.put, List.getElem_toArray, List.getElem_cons_zero, List.getElem_cons_succ, List.setIfInBounds_toArray, List.set_cons_zero, List.set_cons_succ]
          refine wpAnyH_take (i := 2) (v := ?_) rfl (by kernel_rfl) (by kernel_rfl) (by kernel_rfl) (fun _ _ _ h => h) (Or.inl ⟨by rfl, ?_⟩) (by assumption) ?_
          rotate_left 1
          · intro w _; go_simp; try with_reducible rfl
          try simp only [Act.put, List.getElem_toArray, List.getElem_cons_zero, List.getElem_cons_succ, List.setIfInBounds_toArray, List.set_cons_zero, List.set_cons_succ]
          refine wpAnyH_take (i := 3) (v := ?_) rfl (by kernel_rfl) (by kernel_rfl) (by kernel_rfl) (fun _ _ _ h => h) (Or.inl ⟨by rfl, ?_⟩) (by assumption) ?_
          rotate_left 1
          · intro w _; go_simp; try with_reducible rfl
          try simp only [Act.put, List.getElem_toArray, List.getElem_cons_zero, List.getElem_cons_succ, List.setIfInBounds_toArray, List.set_cons_zero, List.set_cons_succ]
          refine wpAnyH_take (i := 4) (v := ?_) rfl (by kernel_rfl) (by kernel_rfl) (by kernel_rfl) (fun _ _ _ h => h) (Or.inl ⟨by rfl, ?_⟩) (by assumption) ?_
          rotate_left 1
          · intro w hSw; (try dsimp only at hSw); obtain ⟨-, s0, s1, s2, s3, s4, s5⟩ := hSw.out; go_simp; try with_reducible rfl
          try simp only [Act.put, List.getElem_toArray, List.getElem_cons_zero, List.getElem_cons_succ, List.setIfInBounds_toArray, List.set_cons_zero, List.set_cons_succ]
          refine wpAnyH_take (i := 5) (v := ?_) rfl (by kernel_rfl) (by kernel_rfl) (by kernel_rfl) (fun _ _ _ h => h) (Or.inl ⟨by rfl, ?_⟩) (by assumption) ?_
          rotate_left 1
          · intro w _; go_simp; try with_reducible rfl
          try simp only [Act.put, List.getElem_toArray, List.getElem_cons_zero, List.getElem_cons_succ, List.setIfInBounds_toArray, List.set_cons_zero, List.set_cons_succ]
          refine wpAnyH_take (i := 6) (v := ?_) rfl (by kernel_rfl) (by kernel_rfl) (by kernel_rfl) (fun _ _ _ h => h) (Or.inl ⟨by rfl, ?_⟩) (by assumption) ?_
          rotate_left 1
          · intro w _; go_simp; try with_reducible rfl
          try simp only [Act.put, List.getElem_toArray, List.getElem_cons_zero, List.getElem_cons_succ, List.setIfInBounds_toArray, List.set_cons_zero, List.set_cons_succ]
          refine wpAnyH_take (i := 7) (v := ?_) rfl (by kernel_rfl) (by kernel_rfl) (by kernel_rfl) (fun _ _ _ h => h) (Or.inl ⟨by rfl, ?_⟩) (by assumption) ?_
          rotate_left 1
          · intro w _; go_simp; try with_reducible rfl
          try simp only [Act.put, List.getElem_toArray, List.getElem_cons_zero, List.getElem_cons_succ, List.setIfInBounds_toArray, List.set_cons_zero, List.set_cons_succ]
          refine wpAnyH_take (i := 8) (v := ?_) rfl (by kernel_rfl) (by kernel_rfl) (by kernel_rfl) (fun _ _ _ h => h) (Or.inl ⟨by rfl, ?_⟩) (by assumption) ?_
          rotate_left 1
          · intro w _; go_simp; try with_reducible rfl
          try simp only [Act.put, List.getElem_toArray, List.getElem_cons_zero, List.getElem_cons_succ, List.setIfInBounds_toArray, List.set_cons_zero, List.set_cons_succ]
          refine wpAnyH_take (i := 9) (v := ?_) rfl (by kernel_rfl) (by kernel_rfl) (by kernel_rfl) (fun _ _ _ h => h) (Or.inl ⟨by rfl, ?_⟩) (by assumption) ?_
          rotate_left 1
          · intro w hSw; (try dsimp only at hSw); obtain ⟨-, s0, s1, s2, s3, s4, s5⟩ := hSw.out; go_simp; try with_reducible rfl
          try simp only [Act.put, List.getElem_toArray, List.getElem_cons_zero, List.getElem_cons_succ, List.setIfInBounds_toArray, List.set_cons_zero, List.set_cons_succ]
          refine wpAnyH_take (i := 10) (v := ?_) rfl (by kernel_rfl) (by kernel_rfl) (by kernel_rfl) (fun _ _ _ h => h) (Or.inl ⟨by rfl, ?_⟩) (by assumption) ?_
          rotate_left 1
          · intro w _; go_simp; try with_reducible rfl
          try simp only [Act.put, List.getElem_toArray, List.getElem_cons_zero, List.getElem_cons_succ, List.setIfInBounds_toArray, List.set_cons_zero, List.set_cons_succ]
          refine wpAnyH_take (i := 11) (v := ?_) rfl (by kernel_rfl) (by kernel_rfl) (by kernel_rfl) (fun _ _ _ h => h) (Or.inl ⟨by rfl, ?_⟩) (by assumption) ?_
          rotate_left 1
          · intro w _; go_simp; try with_reducible rfl
          try simp only [Act.put, List.getElem_toArray, List.getElem_cons_zero, List.getElem_cons_succ, List.setIfInBounds_toArray, List.set_cons_zero, List.set_cons_succ]
          refine wpAnyH_take (i := 12) (v := ?_) rfl (by kernel_rfl) (by kernel_rfl) (by kernel_rfl) (fun _ _ _ h => h) (Or.inl ⟨by rfl, ?_⟩) (by assumption) ?_
          rotate_left 1
          · intro w _; go_simp; try with_reducible rfl
          try simp only [Act.put, List.getElem_toArray, List.getElem_cons_zero, List.getElem_cons_succ, List.setIfInBounds_toArray, List.set_cons_zero, List.set_cons_succ]
          refine wpAnyH_take (i := 13) (v := ?_) rfl (by kernel_rfl) (by kernel_rfl) (by kernel_rfl) (fun _ _ _ h => h) (Or.inl ⟨by rfl, ?_⟩) (by assumption) ?_
          rotate_left 1
          · intro w _; go_simp; try with_reducible rfl
          try simp only [Act.put, List.getElem_toArray, List.getElem_cons_zero, List.getElem_cons_succ, List.setIfInBounds_toArray, List.set_cons_zero, List.set_cons_succ]
          refine wpAnyH_take (i := 14) (v := ?_) rfl (by kernel_rfl) (by kernel_rfl) (by kernel_rfl) (fun _ _ _ h => h) (Or.inl ⟨by rfl, ?_⟩) (by assumption) ?_
          rotate_left 1
          · intro w _; go_simp; try with_reducible rfl
          try simp only [Act.put, List.getElem_toArray, List.getElem_cons_zero, List.getElem_cons_succ, List.setIfInBounds_toArray, List.set_cons_zero, List.set_cons_succ]
          refine wpAnyH_take (i := 15) (v := ?_) rfl (by kernel_rfl) (by kernel_rfl) (by kernel_rfl) (fun _ _ _ h => h) (Or.inl ⟨by rfl, ?_⟩) (by assumption) ?_
          rotate_left 1
          · intro w _; go_simp; try with_reducible rfl
          try simp only [Act.put, List.getElem_toArray, List.getElem_cons_zero, List.getElem_cons_succ, List.setIfInBounds_toArray, List.set_cons_zero, List.set_cons_succ]
          refine wpAnyH_take (i := 16) (v := ?_) rfl (by kernel_rfl) (by kernel_rfl) (by kernel_rfl) (fun _ _ _ h => h) (Or.inl ⟨by rfl, ?_⟩) (by assumption) ?_
          rotate_left 1
          · intro w hSw; (try dsimp only at hSw); obtain ⟨-, s0, s1, s2, s3, s4, s5⟩ := hSw.out; go_simp; try with_reducible rfl
          try simp only [Act.put, List.getElem_toArray, List.getElem_cons_zero, List.getElem_cons_succ, List.setIfInBounds_toArray, List.set_cons_zero, List.set_cons_succ]
          refine wpAnyH_take (i := 17) (v := ?_) rfl (by kernel_rfl) (by kernel_rfl) (by kernel_rfl) (fun _ _ _ h => h) (Or.inl ⟨by rfl, ?_⟩) (by assumption) ?_
          rotate_left 1
          · intro w _; go_simp; try with_reducible rfl
          try simp only [Act.put, List.getElem_toArray, List.getElem_cons_zero, List.getElem_cons_succ, List.setIfInBounds_toArray, List.set_cons_zero, List.set_cons_succ]
          refine wpAnyH_take (i := 18) (v := ?_) rfl (by kernel_rfl) (by kernel_rfl) (by kernel_rfl) (fun _ _ _ h => h) (Or.inl ⟨by rfl, ?_⟩) (by assumption) ?_
          rotate_left 1
          · intro w _; go_simp; try with_reducible rfl
          try simp only [Act.put, List.getElem_toArray, List.getElem_cons_zero, List.getElem_cons_succ, List.setIfInBounds_toArray, List.set_cons_zero, List.set_cons_succ]
          refine wpAnyH_take (i := 19) (v := ?_) rfl (by kernel_rfl) (by kernel_rfl) (by kernel_rfl) (fun _ _ _ h => h) (Or.inl ⟨by rfl, ?_⟩) (by assumption) ?_
          rotate_left 1
          · intro w _; go_simp; try with_reducible rfl
          try simp only [Act.put, List.getElem_toArray, List.getElem_cons_zero, List.getElem_cons_succ, List.setIfInBounds_toArray, List.set_cons_zero, List.set_cons_succ]
          refine wpAnyH_take (i := 20) (v := ?_) rfl (by kernel_rfl) (by kernel_rfl) (by kernel_rfl) (fun _ _ _ h => h) (Or.inl ⟨by rfl, ?_⟩) (by assumption) ?_
          rotate_left 1
          · intro w _; go_simp; try with_reducible rfl
          try simp only [Act.put, List.getElem_toArray, List.getElem_cons_zero, List.getElem_cons_succ, List.setIfInBounds_toArray, List.set_cons_zero, List.set_cons_succ]
          refine wpAnyH_take (i := 21) (v := ?_) rfl (by kernel_rfl) (by kernel_rfl) (by kernel_rfl) (fun _ _ _ h => h) (Or.inl ⟨by rfl, ?_⟩) (by assumption) ?_
          rotate_left 1
          · intro w hSw; (try dsimp only at hSw); obtain ⟨-, s0, s1, s2, s3, s4, s5⟩ := hSw.out; go_simp; try with_reducible rfl
          try simp only [Act.put, List.getElem_toArray, List.getElem_cons_zero, List.getElem_cons_succ, List.setIfInBounds_toArray, List.set_cons_zero, List.set_cons_succ]
          refine wpAnyH_take (i := 22) (v := ?_) rfl (by kernel_rfl) (by kernel_rfl) (by kernel_rfl) (fun _ _ _ h => h) (Or.inl ⟨by rfl, ?_⟩) (by assumption) ?_
          rotate_left 1
          · intro w _; go_simp; try with_reducible rfl
          try simp only [Act.put, List.getElem_toArray, List.getElem_cons_zero, List.getElem_cons_succ, List.setIfInBounds_toArray, List.set_cons_zero, List.set_cons_succ]
          refine wpAnyH_take (i := 23) (v := ?_) rfl (by kernel_rfl) (by kernel_rfl) (by kernel_rfl) (fun _ _ _ h => h) (Or.inl ⟨by rfl, ?_⟩) (by assumption) ?_
          rotate_left 1
          · intro w _; go_simp; try with_reducible rfl
          try simp only [Act.put, List.getElem_toArray, List.getElem_cons_zero, List.getElem_cons_succ, List.setIfInBounds_toArray, List.set_cons_zero, List.set_cons_succ]
          refine wpAnyH_take (i := 24) (v := ?_) rfl (by kernel_rfl) (by kernel_rfl) (by kernel_rfl) (fun _ _ _ h => h) (Or.inl ⟨by rfl, ?_⟩) (by assumption) ?_
          rotate_left 1
          · intro w _; go_simp; try with_reducible rfl
          try simp only [Act.put, List.getElem_toArray, List.getElem_cons_zero, List.getElem_cons_succ, List.setIfInBounds_toArray, List.set_cons_zero, List.set_cons_succ]
          refine wpAnyH_take (i := 25) (v := ?_) rfl (by kernel_rfl) (by kernel_rfl) (by kernel_rfl) (fun _ _ _ h => h) (Or.inl ⟨by rfl, ?_⟩) (by assumption) ?_
          rotate_left 1
          · intro w _; go_simp; try with_reducible rfl
          try simp only [Act.put, List.getElem_toArray, List.getElem_cons_zero, List.getElem_cons_succ, List.setIfInBounds_toArray, List.set_cons_zero, List.set_cons_succ]
          refine wpAnyH_take (i := 26) (v := ?_) rfl (by kernel_rfl) (by kernel_rfl) (by kernel_rfl) (fun _ _ _ h => h) (Or.inl ⟨by rfl, ?_⟩) (by assumption) ?_
          rotate_left 1
          · intro w _; go_simp; try with_reducible rfl
          try simp only [Act.put, List.getElem_toArray, List.getElem_cons_zero, List.getElem_cons_succ, List.setIfInBounds_toArray, List.set_cons_zero, List.set_cons_succ]
          refine wpAnyH_take (i := 27) (v := ?_) rfl (by kernel_rfl) (by kernel_rfl) (by kernel_rfl) (fun _ _ _ h => h) (Or.inl ⟨by rfl, ?_⟩) (by assumption) ?_
          rotate_left 1
          · intro w _; go_simp; try with_reducible rfl
          try simp only [Act.put, List.getElem_toArray, List.getElem_cons_zero, List.getElem_cons_succ, List.setIfInBounds_toArray, List.set_cons_zero, List.set_cons_succ]
          refine wpAnyH_take (i := 28) (v := ?_) rfl (by kernel_rfl) (by kernel_rfl) (by kernel_rfl) (fun _ _ _ h => h) (Or.inl ⟨by rfl, ?_⟩) (by assumption) ?_
          rotate_left 1
          · intro w _; go_simp; try with_reducible rfl
          try simp only [Act.put, List.getElem_toArray, List.getElem_cons_zero, List.getElem_cons_succ, List.setIfInBounds_toArray, List.set_cons_zero, List.set_cons_succ]
          refine wpAnyH_take (i := 29) (v := ?_) rfl (by kernel_rfl) (by kernel_rfl) (by kernel_rfl) (fun _ _ _ h => h) (Or.inl ⟨by rfl, ?_⟩) (by assumption) ?_
          rotate_left 1
          · intro w hSw; (try dsimp only at hSw); obtain ⟨-, s0, s1, s2, s3, s4, s5⟩ := hSw.out; go_simp; try with_reducible rfl
          try simp only [Act.put, List.getElem_toArray, List.getElem_cons_zero, List.getElem_cons_succ, List.setIfInBounds_toArray, List.set_cons_zero, List.set_cons_succ]
          refine wpAnyH_take (i := 30) (v := ?_) rfl (by kernel_rfl) (by kernel_rfl) (by kernel_rfl) (fun _ _ _ h => h) (Or.inl ⟨by rfl, ?_⟩) (by assumption) ?_
          rotate_left 1
          · intro w _; go_simp; try with_reducible rfl
          try simp only [Act.put, List.getElem_toArray, List.getElem_cons_zero, List.getElem_cons_succ, List.setIfInBounds_toArray, List.set_cons_zero, List.set_cons_succ]
          refine wpAnyH_take (i := 31) (v := ?_) rfl (by kernel_rfl) (by kernel_rfl) (by kernel_rfl) (fun _ _ _ h => h) (Or.inl ⟨by rfl, ?_⟩) (by assumption) ?_
          rotate_left 1
          · intro w _; go_simp; try with_reducible rfl
          try simp only [Act.put, List.getElem_toArray, List.getElem_cons_zero, List.getElem_cons_succ, List.setIfInBounds_toArray, List.set_cons_zero, List.set_cons_succ]
          refine wpAnyH_take (i := 32) (v := ?_) rfl (by kernel_rfl) (by kernel_rfl) (by kernel_rfl) (fun _ _ _ h => h) (Or.inl ⟨by rfl, ?_⟩) (by assumption) ?_
          rotate_left 1
          · intro w _; go_simp; try with_reducible rfl
          try simp only [Act.put, List.getElem_toArray, List.getElem_cons_zero, List.getElem_cons_succ, List.setIfInBounds_toArray, List.set_cons_zero, List.set_cons_succ]
          refine wpAnyH_take (i := 33) (v := ?_) rfl (by kernel_rfl) (by kernel_rfl) (by kernel_rfl) (fun _ _ _ h => h) (Or.inl ⟨by rfl, ?_⟩) (by assumption) ?_
          rotate_left 1
          · intro w _; go_simp; try with_reducible rfl
          try simp only [Act.put, List.getElem_toArray, List.getElem_cons_zero, List.getElem_cons_succ, List.setIfInBounds_toArray, List.set_cons_zero, List.set_cons_succ]
          refine wpAnyH_take (i := 34) (v := ?_) rfl (by kernel_rfl) (by kernel_rfl) (by kernel_rfl) (fun _ _ _ h => h) (Or.inl ⟨by rfl, ?_⟩) (by assumption) ?_
          rotate_left 1
          · intro w hSw; (try dsimp only at hSw); obtain ⟨-, s0, s1, s2, s3, s4, s5⟩ := hSw.out; go_simp; try with_reducible rfl
          try simp only [Act.put, List.getElem_toArray, List.getElem_cons_zero, List.getElem_cons_succ, List.setIfInBounds_toArray, List.set_cons_zero, List.set_cons_succ]
          refine wpAnyH_take (i := 35) (v := ?_) rfl (by kernel_rfl) (by kernel_rfl) (by kernel_rfl) (fun _ _ _ h => h) (Or.inl ⟨by rfl, ?_⟩) (by assumption) ?_
          rotate_left 1
          · intro w _; go_simp; try with_reducible rfl
          try simp only [Act.put, List.getElem_toArray, List.getElem_cons_zero, List.getElem_cons_succ, List.setIfInBounds_toArray, List.set_cons_zero, List.set_cons_succ]
          refine wpAnyH_take (i := 36) (v := ?_) rfl (by kernel_rfl) (by kernel_rfl) (by kernel_rfl) (fun _ _ _ h => h) (Or.inl ⟨by rfl, ?_⟩) (by assumption) ?_
          rotate_left 1
          · intro w _; go_simp; try with_reducible rfl
          try simp only [Act.put, List.getElem_toArray, List.getElem_cons_zero, List.getElem_cons_succ, List.setIfInBounds_toArray, List.set_cons_zero, List.set_cons_succ]
          refine wpAnyH_done (by kernel_rfl) ?_ _
          clear hHeld
          have y0' : wr.drew.cell? ⟨g, i * 3, none⟩ = some (.int .i64 f) := y0
          have yf' : wr.drew.frozen? ⟨g, i * 3, none⟩ = false := yf
          have HX4 : Hid ((wr.setCell ⟨g, i * 3, none⟩ (.int .i64 (-5))).drew.ownsRow wo.heap.size 40 3 (.slice (some ⟨g, 0, none⟩) n c3) n (xs.set (i * 3) (.int .i64 (-5)))) := Lib.hid (HX.out.stored (i * 3) (.int .i64 (-5))).1
          have HNO4 : Hid ((wr.setCell ⟨g, i * 3, none⟩ (.int .i64 (-5))).drew.ownsRow b5 3 1 (.slice A4 q c4) q (ci9 T)) := Lib.hid (ownsRow_setCell_below HNO.out (by show g < b5; exact hgb) _)
          have HB4 : Hid (Below wo.heap.size wo (wr.setCell ⟨g, i * 3, none⟩ (.int .i64 (-5))).drew) := Lib.hid (below_draws (HBW.out.setCell (p := ⟨g, i * 3, none⟩) hBg _) 1)
          have HXS4 := Lib.hid (set_later (.int .i64 (-5)) HXS.out)
          go_upto_region 15 with (fail)
          generalize (wr.setCell ⟨g, i * 3, none⟩ (.int .i64 (-5))).drew = w9 at HX4 HNO4 HB4 ⊢
          clear y0 y1 y2 yf k0 k1 k2 y0' yf' SR HX HNO HBW
          go_wp2_with fail
          go_roundw
          case rel => exact ⟨i + 1, _, by omega, by go_num, HXS4, HX4, HNO4, HB4⟩
          case measure => simp [intOf]; omega
        · obtain rfl : i = n := by omega
          clear HX HXS
          go_wp2_with fail
          go_loopw [14] (fun iv wq => ∃ (i : Nat) (xs : List Value), i ≤ q ∧ iv = .int .i64 i ∧ Hid (wq.ownsRow b5 3 1 (.slice A4 q c4) q xs) ∧ Hid (Below wo.heap.size wo wq)) (fun iv _ => q - (intOf iv).toNat)
          case atStart => exact ⟨0, _, by omega, rfl, HNO, HBW⟩
          case round =>
            clear HNO HBW
            obtain ⟨j, xs, hj, rfl, HNO, HBW⟩ := hrel
            by_cases h4 : j < q
            · obtain ⟨g, hg, hBg, hgs⟩ := own_at HNO.out (by omega)
              subst hg
              have hxl : xs.length = q := by simpa using HNO.out.1
              have y0 := HNO.out.cellAt j (by omega)
              rw [List.getElem?_eq_getElem (by omega)] at y0
              have yf := HNO.out.frozenAt j
              have HNO4 := Lib.hid (HNO.out.stored j (.int .i64 (-5))).1
              have HB4 : Hid (Below wo.heap.size wo (wr.setCell ⟨g, j, none⟩ (.int .i64 (-5)))) := Lib.hid (HBW.out.setCell (p := ⟨g, j, none⟩) (by show wo.heap.size ≤ g; omega) _)
              clear HNO HBW
              go_wp2_with fail
              go_roundw
              case rel => exact ⟨j + 1, _, by omega, by go_num, HNO4, HB4⟩
              case measure => simp [intOf]; omega
            · obtain rfl : j = q := by omega
              have HM5 : Hid (Ri wr Am cm L) := Lib.hid (HM.out.keep HBW.out)
              have HJ5 : Hid (Rj wr A1 c1 FL) := Lib.hid (HJ.out.keep HBW.out)
              have HN5 : Hid (Rn wr A2 c2 T) := Lib.hid (HNN.out.keep HBW.out)
              have HB5 : Hid (Below w.heap.size w wr) := Lib.hid (below_on HB.out HBW.out)
              go_wp2_with fail
              go_roundw
              case rel => exact ⟨t + 1, by omega, by go_num, HM5, HJ5, HN5, HB5⟩
              case measure => simp [intOf]; omega
    · go_wp2_with fail
      go_ret
      exact ⟨rfl, HB.out⟩
end Go.Proofs.Ytfchdggefedgoaa
