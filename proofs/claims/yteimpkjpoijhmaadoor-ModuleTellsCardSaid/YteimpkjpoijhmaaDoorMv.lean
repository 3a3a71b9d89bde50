/-
  The walk of ModuleTells over its contracts: for every two modules it returns true; nothing that was there has changed.
-/
import Derived.Test.YteimpkjpoijhmaaDoorMw
import Derived.OwnWalk
import Derived.Laws.OwnMore
namespace Go.Proofs.YteimpkjpoijhmaaDoor
open Go.RowKit
set_option maxRecDepth 100000
set_option linter.unusedSimpArgs false
set_option linter.unusedVariables false

/-- What the reference's Copy is to answer. -/
def RCopy : Prop := ∀ (y : Ma) (d : Md) (w : World), Hq w y d → qG d = false → Calls Tryd.prog 9 #[dv y d] w fun r w' => ∃ t, r = .returned (dv t d) ∧ Hq w' t d ∧ Below w.heap.size w w'
abbrev fOb (B : Nat) (A : Option Addr) (c n : Nat) (l : List Int) : Fct := ⟨fun w => w.ownsRow B 5 1 (.slice A n c) n (cel l) ∧ Byt l, fun _ _ h hb => ⟨own_below h.1 hb (Nat.le_refl _), h.2⟩⟩
set_option maxHeartbeats 8000000 in
theorem m8tells_walk (F : Fct) (RC : RCopy) (KB : KMBytes F) (KM : KMMay F) (KS : KMSame F) (y t : Ma) (d e : Md) (w : World) (hw : F.p w) (hy : Hq w y d) (ht : Hq w t e) : Calls Tryd.prog 3 #[dv y d, dv t e] w fun r w' => r = .returned (.bool true) ∧ Below w.heap.size w w' := by
  obtain ⟨v, hv⟩ : ∃ v, qS d e = v := ⟨_, rfl⟩
  have HV := Lib.hid hv
  have HBD := Lib.hid (qB_byt (qok_of hy))
  have S0 := Lib.hid ((((((Sx.start w).add F hw).add (fQm y d) hy).add (fQm t e) ht).mkD y d).mkD t e)
  rw [size1] at S0
  clear hy ht hw hv
  obtain ⟨-, ⟨y0, y1, y2, y3, y4⟩, ⟨x0, x1, x2, x3, x4⟩, -⟩ := S0.out
  go_enter Tryd.func3, Tryd.ntmps3
  go_wp2_with fail
  refine (great8_v y d _ S0.out.2.2.2.2.1).mono ?_
  rintro r1 w2 ⟨rfl, hb2⟩
  have S2 := Lib.hid (S0.out.call hb2)
  clear hb2 S0
  clear y0 y1 y2 y3 y4 x0 x1 x2 x3 x4
  cases g1 : qG d with
  | true =>
    go_wp2_with fail
    go_ret
    exact ⟨rfl, S2.out.1⟩
  | false =>
    obtain ⟨-, ⟨y0, y1, y2, y3, y4⟩, ⟨x0, x1, x2, x3, x4⟩, -⟩ := S2.out
    go_wp2_with fail
    refine (great8_v t e _ S2.out.2.2.2.1).mono ?_
    rintro r1 w3 ⟨rfl, hb3⟩
    have S3 := Lib.hid (S2.out.call hb3)
    clear hb3 S2
    clear y0 y1 y2 y3 y4 x0 x1 x2 x3 x4
    cases g2 : qG e with
    | true =>
      go_wp2_with fail
      go_ret
      exact ⟨rfl, S3.out.1⟩
    | false =>
      have HG := Lib.hid (And.intro g1 g2)
      clear g1 g2
      obtain ⟨-, ⟨y0, y1, y2, y3, y4⟩, ⟨x0, x1, x2, x3, x4⟩, -⟩ := S3.out
      go_wp2_with fail
      refine (RC y d _ S3.out.2.2.2.2.1 HG.out.1).mono ?_
      rintro r1 w4 ⟨u, rfl, hu, hb4⟩
      have S4 := Lib.hid (((S3.out.call hb4).add (fQm u d) hu).mkD u d)
      clear hb4 hu S3
      clear y0 y1 y2 y3 y4 x0 x1 x2 x3 x4
      go_upto_region 4 with (fail)
      have S4' : Hid (Sx w (w4.alloc (.cells #[.slice u.G d.g.length u.gc, .slice u.P d.p.length u.pc, .slice u.A d.s.length u.c, .int .i64 d.i] 25)) [fD w4.heap.size u d, fQm u d, fD (w.heap.size + 1) t e, fD w.heap.size y d, fQm t e, fQm y d, F]) := S4
      clear S4
      generalize w4.alloc (.cells #[.slice u.G d.g.length u.gc, .slice u.P d.p.length u.pc, .slice u.A d.s.length u.c, .int .i64 d.i] 25) = w5 at S4' ⊢
      generalize w4.heap.size = T7 at S4' ⊢
      have S5 := S4'
      clear S4'
      obtain ⟨-, -, -, ⟨y0, y1, y2, y3, y4⟩, ⟨x0, x1, x2, x3, x4⟩, -⟩ := S5.out
      go_wp2_with fail
      refine (r8bytes_v y d _ S5.out.2.2.2.2.2.2.1).mono ?_
      rintro r1 w6 ⟨A4, c4, rfl, ho6, hb6⟩
      have S6 := Lib.hid ((S5.out.call hb6).add (fR A4 c4 (qB d)) (own_rd ho6 HBD.out))
      clear hb6 ho6 S5
      clear y0 y1 y2 y3 y4 x0 x1 x2 x3 x4
      obtain ⟨s, hs⟩ : ∃ s, strOfNums (qB d) = s := ⟨_, rfl⟩
      have HS := Lib.hid hs
      obtain ⟨nL, hnL⟩ : ∃ nL, (qB d).length = nL := ⟨_, rfl⟩
      have HNL := Lib.hid hnL
      have hnb : nL ≤ 9223372036854775807 := by rw [← hnL]; exact (S6.out.2.1 : Rd w6 A4 c4 (qB d)).len
      obtain ⟨ee, hee⟩ : ∃ ee, qE d = ee := ⟨_, rfl⟩
      have HEE := Lib.hid hee
      rw [hnL, hee]
      clear hs hnL hee
      go_wp2_with fail
      go_loopw [8] (fun i wr => ∃ q : Nat, q ≤ 2 ∧ i = .int .i64 q ∧ Hid (Sx w wr [fR A4 c4 (qB d), fD T7 u d, fQm u d, fD (w.heap.size + 1) t e, fD w.heap.size y d, fQm t e, fQm y d, F])) (fun i _ => 2 - (intOf i).toNat)
      case atStart => exact ⟨0, by omega, rfl, S6⟩
      case round =>
        obtain ⟨q, hq, rfl, R0⟩ := hrel
        rename World => wA
        clear S6
        by_cases hq2 : q < 2
        · have U0 : Hid (Sx wA wA [fR A4 c4 (qB d), fD T7 u d, fQm u d, fD (w.heap.size + 1) t e, fD w.heap.size y d, fQm t e, fQm y d, F]) := Lib.hid ⟨Below.refl _ _, R0.out.2⟩
          obtain ⟨-, -, ⟨u0, u1, u2, u3, u4⟩, -⟩ := U0.out
          have PB := Lib.hid (KB u d wA U0.out.2.2.2.2.2.2.2.2.1 U0.out.2.2.2.1 HG.out.1)
          rw [HNL.out, HEE.out] at PB
          go_wp2_with fail
          refine PB.out.mono ?_
          rintro r1 w10 ⟨A6, c6, rfl, ho6, hb6⟩
          have U1 := Lib.hid ((U0.out.call hb6).add (fOb wA.heap.size A6 c6 nL (qB d)) ⟨ho6, HBD.out⟩)
          clear ho6 hb6 U0 PB u0 u1 u2 u3 u4
          go_upto_region 9 with (fail)
          refine wp_region_held_drew (S := fun w' => Hid (Sx wA w' [fOb wA.heap.size A6 c6 nL (qB d), fR A4 c4 (qB d), fD T7 u d, fQm u d, fD (w.heap.size + 1) t e, fD w.heap.size y d, fQm t e, fQm y d, F])) (by kernel_rfl) (Hsx.drew U1) (fun hHeld => ?_)
          refine wpAnyH_take (i := 0) (v := ?_) rfl (by kernel_rfl) (by kernel_rfl) (by kernel_rfl) (fun _ _ _ h => h) (Or.inl ⟨by rfl, ?_⟩) (by assumption) ?_
          rotate_left 1
          · intro w _; go_simp; try with_reducible rfl
          try simp only [Act.put, List.getElem_toArray, List.getElem_cons_zero, List.getElem_cons_succ, List.setIfInBounds_toArray, List.set_cons_zero, List.set_cons_succ]
          refine wpAnyH_take (i := 1) (v := ?_) rfl (by kernel_rfl) (by kernel_rfl) (by kernel_rfl) (fun _ _ _ h => h) (Or.inl ⟨by rfl, ?_⟩) (by assumption) ?_
          rotate_left 1
          · intro w hSw; (try dsimp only at hSw); have k1 := rd_string (P := Tryd.prog) (own_rd hSw.out.2.1.1 hSw.out.2.1.2) 28 9 5 Tryd.underlying28 Tryd.underlying5 Tryd.underlying9; rw [HS.out] at k1; rw [HNL.out] at k1; go_simp; try with_reducible rfl
          try simp only [Act.put, List.getElem_toArray, List.getElem_cons_zero, List.getElem_cons_succ, List.setIfInBounds_toArray, List.set_cons_zero, List.set_cons_succ]
          refine wpAnyH_take (i := 2) (v := ?_) rfl (by kernel_rfl) (by kernel_rfl) (by kernel_rfl) (fun _ _ _ h => h) (Or.inl ⟨by rfl, ?_⟩) (by assumption) ?_
          rotate_left 1
          · intro w _; go_simp; try with_reducible rfl
          try simp only [Act.put, List.getElem_toArray, List.getElem_cons_zero, List.getElem_cons_succ, List.setIfInBounds_toArray, List.set_cons_zero, List.set_cons_succ]
          refine wpAnyH_take (i := 3) (v := ?_) rfl (by kernel_rfl) (by kernel_rfl) (by kernel_rfl) (fun _ _ _ h => h) (Or.inl ⟨by rfl, ?_⟩) (by assumption) ?_
          rotate_left 1
          · intro w hSw; (try dsimp only at hSw); have k1 := rd_string (P := Tryd.prog) hSw.out.2.2.1 28 9 5 Tryd.underlying28 Tryd.underlying5 Tryd.underlying9; rw [HS.out] at k1; rw [HNL.out] at k1; go_simp; try with_reducible rfl
          try simp only [Act.put, List.getElem_toArray, List.getElem_cons_zero, List.getElem_cons_succ, List.setIfInBounds_toArray, List.set_cons_zero, List.set_cons_succ]
          refine wpAnyH_take (i := 4) (v := ?_) rfl (by kernel_rfl) (by kernel_rfl) (by kernel_rfl) (fun _ _ _ h => h) (Or.inl ⟨by rfl, ?_⟩) (by assumption) ?_
          rotate_left 1
          · intro w _; go_simp; try with_reducible rfl
          try simp only [Act.put, List.getElem_toArray, List.getElem_cons_zero, List.getElem_cons_succ, List.setIfInBounds_toArray, List.set_cons_zero, List.set_cons_succ]
          refine wpAnyH_take (i := 5) (v := ?_) rfl (by kernel_rfl) (by kernel_rfl) (by kernel_rfl) (fun _ _ _ h => h) (Or.inl ⟨by rfl, ?_⟩) (by assumption) ?_
          rotate_left 1
          · intro w _; go_simp; try with_reducible rfl
          try simp only [Act.put, List.getElem_toArray, List.getElem_cons_zero, List.getElem_cons_succ, List.setIfInBounds_toArray, List.set_cons_zero, List.set_cons_succ]
          refine wpAnyH_take (i := 6) (v := ?_) rfl (by kernel_rfl) (by kernel_rfl) (by kernel_rfl) (fun _ _ _ h => h) (Or.inl ⟨by rfl, ?_⟩) (by assumption) ?_
          rotate_left 1
          · intro w _; go_simp; try with_reducible rfl
          try simp only [Act.put, List.getElem_toArray, List.getElem_cons_zero, List.getElem_cons_succ, List.setIfInBounds_toArray, List.set_cons_zero, List.set_cons_succ]
          refine wpAnyH_take (i := 7) (v := ?_) rfl (by kernel_rfl) (by kernel_rfl) (by kernel_rfl) (fun _ _ _ h => h) (Or.inl ⟨by rfl, ?_⟩) (by assumption) ?_
          rotate_left 1
          · intro w _; go_simp; try with_reducible rfl
          try simp only [Act.put, List.getElem_toArray, List.getElem_cons_zero, List.getElem_cons_succ, List.setIfInBounds_toArray, List.set_cons_zero, List.set_cons_succ]
          refine wpAnyH_take (i := 8) (v := ?_) rfl (by kernel_rfl) (by kernel_rfl) (by kernel_rfl) (fun _ _ _ h => h) (Or.inl ⟨by rfl, ?_⟩) (by assumption) ?_
          rotate_left 1
          · intro w _; go_simp; try with_reducible rfl
          try simp only [Act.put, List.getElem_toArray, List.getElem_cons_zero, List.getElem_cons_succ, List.setIfInBounds_toArray, List.set_cons_zero, List.set_cons_succ]
          refine wpAnyH_take (i := 9) (v := ?_) rfl (by kernel_rfl) (by kernel_rfl) (by kernel_rfl) (fun _ _ _ h => h) (Or.inl ⟨by rfl, ?_⟩) (by assumption) ?_
          rotate_left 1
          · intro w _; go_simp; try with_reducible rfl
          try simp only [Act.put, List.getElem_toArray, List.getElem_cons_zero, List.getElem_cons_succ, List.setIfInBounds_toArray, List.set_cons_zero, List.set_cons_succ]
          refine wpAnyH_take (i := 10) (v := ?_) rfl (by kernel_rfl) (by kernel_rfl) (by kernel_rfl) (fun _ _ _ h => h) (Or.inl ⟨by rfl, ?_⟩) (by assumption) ?_
          rotate_left 1
          · intro w _; go_simp; try with_reducible rfl
          try simp only [Act.put, List.getElem_toArray, List.getElem_cons_zero, List.getElem_cons_succ, List.setIfInBounds_toArray, List.set_cons_zero, List.set_cons_succ]
          refine wpAnyH_take (i := 11) (v := ?_) rfl (by kernel_rfl) (by kernel_rfl) (by kernel_rfl) (fun _ _ _ h => h) (Or.inl ⟨by rfl, ?_⟩) (by assumption) ?_
          rotate_left 1
          · intro w hSw; (try dsimp only at hSw); obtain ⟨-, -, -, ⟨u0, u1, u2, u3, u4⟩, -, ⟨y0, y1, y2, y3, y4⟩, ⟨x0, x1, x2, x3, x4⟩, -⟩ := hSw.out; go_simp; try with_reducible rfl
          try simp only [Act.put, List.getElem_toArray, List.getElem_cons_zero, List.getElem_cons_succ, List.setIfInBounds_toArray, List.set_cons_zero, List.set_cons_succ]
          refine wpAnyH_take (i := 13) (v := ?_) rfl (by kernel_rfl) (by kernel_rfl) (by kernel_rfl) (fun _ _ _ h => h) (Or.inl ⟨by rfl, ?_⟩) (by assumption) ?_
          rotate_left 1
          · intro w _; go_simp; try with_reducible rfl
          try simp only [Act.put, List.getElem_toArray, List.getElem_cons_zero, List.getElem_cons_succ, List.setIfInBounds_toArray, List.set_cons_zero, List.set_cons_succ]
          refine wpAnyH_ready (rs := [12]) (by kernel_rfl) (by simp) ?_
          refine AllReadyH.cons rfl (fun K hK => ?_) AllReadyH.nil
          go_simp
          refine (KM u d _ hHeld.out.2.2.2.2.2.2.2.2.2.1 hHeld.out.2.2.2.2.1 HG.out.1).mono ?_
          rintro r1 wb ⟨rfl, hb⟩
          rw [HEE.out]
          go_wp2_with fail
          refine hK.out _ _ (Hsx.call hb hHeld) (fun hHeld => ?_)
          clear hK K
          try simp only [Act.put, List.getElem_toArray, List.getElem_cons_zero, List.getElem_cons_succ, List.setIfInBounds_toArray, List.set_cons_zero, List.set_cons_succ]
          refine wpAnyH_take (i := 14) (v := ?_) rfl (by kernel_rfl) (by kernel_rfl) (by kernel_rfl) (fun _ _ _ h => h) (Or.inl ⟨by rfl, ?_⟩) (by assumption) ?_
          rotate_left 1
          · intro w _; go_simp; try with_reducible rfl
          try simp only [Act.put, List.getElem_toArray, List.getElem_cons_zero, List.getElem_cons_succ, List.setIfInBounds_toArray, List.set_cons_zero, List.set_cons_succ]
          refine wpAnyH_take (i := 15) (v := ?_) rfl (by kernel_rfl) (by kernel_rfl) (by kernel_rfl) (fun _ _ _ h => h) (Or.inl ⟨by rfl, ?_⟩) (by assumption) ?_
          rotate_left 1
          · intro w _; go_simp; try with_reducible rfl
          try simp only [Act.put, List.getElem_toArray, List.getElem_cons_zero, List.getElem_cons_succ, List.setIfInBounds_toArray, List.set_cons_zero, List.set_cons_succ]
          refine wpAnyH_take (i := 16) (v := ?_) rfl (by kernel_rfl) (by kernel_rfl) (by kernel_rfl) (fun _ _ _ h => h) (Or.inl ⟨by rfl, ?_⟩) (by assumption) ?_
          rotate_left 1
          · intro w _; go_simp; try with_reducible rfl
          try simp only [Act.put, List.getElem_toArray, List.getElem_cons_zero, List.getElem_cons_succ, List.setIfInBounds_toArray, List.set_cons_zero, List.set_cons_succ]
          refine wpAnyH_take (i := 17) (v := ?_) rfl (by kernel_rfl) (by kernel_rfl) (by kernel_rfl) (fun _ _ _ h => h) (Or.inl ⟨by rfl, ?_⟩) (by assumption) ?_
          rotate_left 1
          · intro w hSw; (try dsimp only at hSw); obtain ⟨-, -, -, ⟨u0, u1, u2, u3, u4⟩, -, ⟨y0, y1, y2, y3, y4⟩, ⟨x0, x1, x2, x3, x4⟩, -⟩ := hSw.out; go_simp; try with_reducible rfl
          try simp only [Act.put, List.getElem_toArray, List.getElem_cons_zero, List.getElem_cons_succ, List.setIfInBounds_toArray, List.set_cons_zero, List.set_cons_succ]
          refine wpAnyH_take (i := 18) (v := ?_) rfl (by kernel_rfl) (by kernel_rfl) (by kernel_rfl) (fun _ _ _ h => h) (Or.inl ⟨by rfl, ?_⟩) (by assumption) ?_
          rotate_left 1
          · intro w hSw; (try dsimp only at hSw); obtain ⟨-, -, -, ⟨u0, u1, u2, u3, u4⟩, -, ⟨y0, y1, y2, y3, y4⟩, ⟨x0, x1, x2, x3, x4⟩, -⟩ := hSw.out; go_simp; try with_reducible rfl
          try simp only [Act.put, List.getElem_toArray, List.getElem_cons_zero, List.getElem_cons_succ, List.setIfInBounds_toArray, List.set_cons_zero, List.set_cons_succ]
          refine wpAnyH_take (i := 20) (v := ?_) rfl (by kernel_rfl) (by kernel_rfl) (by kernel_rfl) (fun _ _ _ h => h) (Or.inl ⟨by rfl, ?_⟩) (by assumption) ?_
          rotate_left 1
          · intro w hSw; (try dsimp only at hSw); obtain ⟨-, -, -, ⟨u0, u1, u2, u3, u4⟩, -, ⟨y0, y1, y2, y3, y4⟩, ⟨x0, x1, x2, x3, x4⟩, -⟩ := hSw.out; go_simp; try with_reducible rfl
          try simp only [Act.put, List.getElem_toArray, List.getElem_cons_zero, List.getElem_cons_succ, List.setIfInBounds_toArray, List.set_cons_zero, List.set_cons_succ]
          refine wpAnyH_take (i := 21) (v := ?_) rfl (by kernel_rfl) (by kernel_rfl) (by kernel_rfl) (fun _ _ _ h => h) (Or.inl ⟨by rfl, ?_⟩) (by assumption) ?_
          rotate_left 1
          · intro w hSw; (try dsimp only at hSw); obtain ⟨-, -, -, ⟨u0, u1, u2, u3, u4⟩, -, ⟨y0, y1, y2, y3, y4⟩, ⟨x0, x1, x2, x3, x4⟩, -⟩ := hSw.out; go_simp; try with_reducible rfl
          try simp only [Act.put, List.getElem_toArray, List.getElem_cons_zero, List.getElem_cons_succ, List.setIfInBounds_toArray, List.set_cons_zero, List.set_cons_succ]
          refine wpAnyH_ready (rs := [19]) (by kernel_rfl) (by simp) ?_
          refine AllReadyH.cons rfl (fun K hK => ?_) AllReadyH.nil
          go_simp
          refine (KS u t d e _ hHeld.out.2.2.2.2.2.2.2.2.2.1 hHeld.out.2.2.2.2.1 hHeld.out.2.2.2.2.2.2.2.1 HG.out.1 HG.out.2).mono ?_
          rintro r1 wb ⟨rfl, hb⟩
          rw [HV.out]
          go_wp2_with fail
          refine hK.out _ _ (Hsx.call hb hHeld) (fun hHeld => ?_)
          clear hK K
          try simp only [Act.put, List.getElem_toArray, List.getElem_cons_zero, List.getElem_cons_succ, List.setIfInBounds_toArray, List.set_cons_zero, List.set_cons_succ]
          refine wpAnyH_ready (rs := [22]) (by kernel_rfl) (by simp) ?_
          refine AllReadyH.cons rfl (fun K hK => ?_) AllReadyH.nil
          go_simp
          refine (r8same_v y t d e v _ hHeld.out.2.2.2.2.2.2.2.2.1 hHeld.out.2.2.2.2.2.2.2.1 HV.out).mono ?_
          rintro r1 wb ⟨rfl, hb⟩
          go_wp2_with fail
          refine hK.out _ _ (Hsx.call hb hHeld) (fun hHeld => ?_)
          clear hK K
          try simp only [Act.put, List.getElem_toArray, List.getElem_cons_zero, List.getElem_cons_succ, List.setIfInBounds_toArray, List.set_cons_zero, List.set_cons_succ]
          refine wpAnyH_take (i := 23) (v := ?_) rfl (by kernel_rfl) (by kernel_rfl) (by kernel_rfl) (fun _ _ _ h => h) (Or.inl ⟨by rfl, ?_⟩) (by assumption) ?_
          rotate_left 1
          · intro w _; go_simp; try with_reducible rfl
          try simp only [Act.put, List.getElem_toArray, List.getElem_cons_zero, List.getElem_cons_succ, List.setIfInBounds_toArray, List.set_cons_zero, List.set_cons_succ]
          refine wpAnyH_take (i := 24) (v := ?_) rfl (by kernel_rfl) (by kernel_rfl) (by kernel_rfl) (fun _ _ _ h => h) (Or.inl ⟨by rfl, ?_⟩) (by assumption) ?_
          rotate_left 1
          · intro w _; go_simp; try with_reducible rfl
          try simp only [Act.put, List.getElem_toArray, List.getElem_cons_zero, List.getElem_cons_succ, List.setIfInBounds_toArray, List.set_cons_zero, List.set_cons_succ]
          refine wpAnyH_take (i := 25) (v := ?_) rfl (by kernel_rfl) (by kernel_rfl) (by kernel_rfl) (fun _ _ _ h => h) (Or.inl ⟨by rfl, ?_⟩) (by assumption) ?_
          rotate_left 1
          · intro w _; go_simp; try with_reducible rfl
          try simp only [Act.put, List.getElem_toArray, List.getElem_cons_zero, List.getElem_cons_succ, List.setIfInBounds_toArray, List.set_cons_zero, List.set_cons_succ]
          refine wpAnyH_take (i := 26) (v := ?_) rfl (by kernel_rfl) (by kernel_rfl) (by kernel_rfl) (fun _ _ _ h => h) (Or.inl ⟨by rfl, ?_⟩) (by assumption) ?_
          rotate_left 1
          · intro w hSw; (try dsimp only at hSw); obtain ⟨-, -, -, ⟨u0, u1, u2, u3, u4⟩, -, ⟨y0, y1, y2, y3, y4⟩, ⟨x0, x1, x2, x3, x4⟩, -⟩ := hSw.out; go_simp; try with_reducible rfl
          try simp only [Act.put, List.getElem_toArray, List.getElem_cons_zero, List.getElem_cons_succ, List.setIfInBounds_toArray, List.set_cons_zero, List.set_cons_succ]
          refine wpAnyH_take (i := 27) (v := ?_) rfl (by kernel_rfl) (by kernel_rfl) (by kernel_rfl) (fun _ _ _ h => h) (Or.inl ⟨by rfl, ?_⟩) (by assumption) ?_
          rotate_left 1
          · intro w hSw; (try dsimp only at hSw); obtain ⟨-, -, -, ⟨u0, u1, u2, u3, u4⟩, -, ⟨y0, y1, y2, y3, y4⟩, ⟨x0, x1, x2, x3, x4⟩, -⟩ := hSw.out; go_simp; try with_reducible rfl
          try simp only [Act.put, List.getElem_toArray, List.getElem_cons_zero, List.getElem_cons_succ, List.setIfInBounds_toArray, List.set_cons_zero, List.set_cons_succ]
          refine wpAnyH_ready (rs := [28]) (by kernel_rfl) (by simp) ?_
          refine AllReadyH.cons rfl (fun K hK => ?_) AllReadyH.nil
          go_simp
          refine (r8same_v u y d d true _ hHeld.out.2.2.2.2.1 hHeld.out.2.2.2.2.2.2.2.2.1 (qS_self _)).mono ?_
          rintro r1 wb ⟨rfl, hb⟩
          go_wp2_with fail
          refine hK.out _ _ (Hsx.call hb hHeld) (fun hHeld => ?_)
          clear hK K
          try simp only [Act.put, List.getElem_toArray, List.getElem_cons_zero, List.getElem_cons_succ, List.setIfInBounds_toArray, List.set_cons_zero, List.set_cons_succ]
          refine wpAnyH_take (i := 29) (v := ?_) rfl (by kernel_rfl) (by kernel_rfl) (by kernel_rfl) (fun _ _ _ h => h) (Or.inl ⟨by rfl, ?_⟩) (by assumption) ?_
          rotate_left 1
          · intro w _; go_simp; try with_reducible rfl
          try simp only [Act.put, List.getElem_toArray, List.getElem_cons_zero, List.getElem_cons_succ, List.setIfInBounds_toArray, List.set_cons_zero, List.set_cons_succ]
          refine wpAnyH_take (i := 30) (v := ?_) rfl (by kernel_rfl) (by kernel_rfl) (by kernel_rfl) (fun _ _ _ h => h) (Or.inl ⟨by rfl, ?_⟩) (by assumption) ?_
          rotate_left 1
          · intro w _; go_simp; try with_reducible rfl
          try simp only [Act.put, List.getElem_toArray, List.getElem_cons_zero, List.getElem_cons_succ, List.setIfInBounds_toArray, List.set_cons_zero, List.set_cons_succ]
          refine wpAnyH_done (by kernel_rfl) ?_ _
          have HO6 := Lib.hid hHeld.out.2.1
          have HBW := Lib.hid hHeld.out.1
          clear hHeld U1
          go_wp2_with fail
          go_loopw [11] (fun i wx => ∃ (j : Nat) (l : List Int), j ≤ nL ∧ i = .int .i64 j ∧ Hid (wx.ownsRow wA.heap.size 5 1 (.slice A6 nL c6) nL (cel l) ∧ Byt l) ∧ Hid (Below wA.heap.size wA wx)) (fun i _ => nL - (intOf i).toNat)
          case atStart => exact ⟨0, qB d, by omega, rfl, HO6, HBW⟩
          case round =>
            obtain ⟨j, l, hj, rfl, HI6, HIB⟩ := hrel
            clear HO6 HBW
            by_cases hlt : j < nL
            · obtain ⟨hown, hbm⟩ := HI6.out
              have hll : l.length = nL := by have := hown.1; rw [length_cel] at this; omega
              obtain ⟨g, rfl, hg⟩ := own_some hown (by omega)
              have hfz := hown.frozenAt j
              have hcell := hown.cellAt j (by omega)
              obtain ⟨z, hz⟩ : ∃ z, l[j]? = some z := ⟨_, List.getElem?_eq_getElem (by omega)⟩
              have hz' : (cel l)[j]? = some (.int .u8 z) := by simp [cel, hz]
              rw [hz'] at hcell
              have hzb : 0 ≤ z ∧ z < 256 := hbm z (List.mem_of_getElem? hz)
              have hst := hown.stored j (.int .u8 ((z + 1) % 256))
              rw [cel_set] at hst
              have HS2 := Lib.hid hst.1
              have HB2 := Lib.hid (HIB.out.setCell (p := ⟨g, j, none⟩) hg (.int .u8 ((z + 1) % 256)))
              have HY := Lib.hid (byt_set hbm j (x := (z + 1) % 256) (by omega))
              clear hz hz' hst hown hbm HI6 HIB hll
              go_wp2_with fail
              go_roundw
              case rel => exact ⟨j + 1, l.set j ((z + 1) % 256), by omega, by go_num, Lib.hid ⟨HS2.out, HY.out⟩, HB2⟩
              case measure => simp [intOf]; omega
            · have R1 := Lib.hid (R0.out.call HIB.out)
              clear HI6 HIB
              go_wp2_with fail
              go_roundw
              case rel => exact ⟨q + 1, by omega, by go_num, R1⟩
              case measure => simp [intOf]; omega
        · obtain rfl : q = 2 := by omega
          obtain ⟨-, -, ⟨u0, u1, u2, u3, u4⟩, -, -, ⟨x0, x1, x2, x3, x4⟩, -⟩ := R0.out
          go_wp2_with fail
          refine (KS u y d d _ R0.out.2.2.2.2.2.2.2.2.1 R0.out.2.2.2.1 R0.out.2.2.2.2.2.2.2.1 HG.out.1 HG.out.1).mono ?_
          rintro r1 w11 ⟨rfl, hb⟩
          rw [qS_self]
          have R1 := Lib.hid (R0.out.call hb)
          clear hb R0 u0 u1 u2 u3 u4 x0 x1 x2 x3 x4
          go_wp2_with fail
          go_ret
          exact ⟨rfl, R1.out.1⟩
end Go.Proofs.YteimpkjpoijhmaaDoor
