/-
  Law FramePlays of layer 16.
-/
import Derived.Test.YtkifapnmojfjoaaUi
namespace Go.Proofs.Ytkifapnmojfjoaa
open Go.RowKit
set_option maxRecDepth 100000
set_option linter.unusedSimpArgs false
set_option linter.unusedVariables false

theorem pl16 {X : Nat → Prop} {w : World} {B : Nat} {f : Fm} (h : Rf16 X w B f) : w.cell? ⟨B, 2, none⟩ = some (.int .i64 f.p) := by
  obtain ⟨A, A2, A3, c, c2, c3, T, h, -⟩ := h
  exact h.c0.2.2.1
set_option maxHeartbeats 16000000 in
theorem plays16_walk (C : KF16) (A0 A1 A2 A3 : Option Addr) (n0 n1 n2 n3 c0 c1 c2 c3 : Nat) (a b : List Int) (l : List Vlu) (L : List A16) (w : World) (ha : Rd w A0 c0 a) (hb : Rd w A1 c1 b) (hl : Rv w A2 c2 l) (hL : Ra16 w A3 c3 L) (h0 : a.length = n0) (h1 : b.length = n1) (h2 : l.length = n2) (h3 : L.length = n3) :
    Calls Try.prog 3 #[.slice A0 n0 c0, .slice A1 n1 c1, .slice A2 n2 c2, .slice A3 n3 c3] w fun e w' => e = .returned (.bool true) ∧ Below w.heap.size w w' := by
  have HA := Lib.hid ha
  have HB := Lib.hid hb
  have HL := Lib.hid hl
  have HR := Lib.hid hL
  have H0 := Lib.hid h0
  have H1 := Lib.hid h1
  have H2 := Lib.hid h2
  have H3 := Lib.hid h3
  clear ha hb hl hL h0 h1 h2 h3
  by_cases g0 : 40 < n0
  · go_enter Try.func3, Try.ntmps3
    go_wp2_with fail
    go_ret
    exact ⟨rfl, Below.refl _ _⟩
  · by_cases g1 : 40 < n1
    · go_enter Try.func3, Try.ntmps3
      go_wp2_with fail
      go_ret
      exact ⟨rfl, Below.refl _ _⟩
    · by_cases g2 : 40 < n2
      · go_enter Try.func3, Try.ntmps3
        go_wp2_with fail
        go_ret
        exact ⟨rfl, Below.refl _ _⟩
      · by_cases g3 : 400 < n3
        · go_enter Try.func3, Try.ntmps3
          go_wp2_with fail
          go_ret
          exact ⟨rfl, Below.refl _ _⟩
        · have HO := Lib.hid (show (w.alloc (.cells #[] 33)).ownsRow w.heap.size 33 3 (.slice (some ⟨w.heap.size, 0, none⟩) 0 0) 0 (cev []) from
            World.ownsRow_lit (base := w.heap.size) (e := 33) (size := 3) w #[] 0 (Nat.le_refl _) (by unfold maxLen; simp) (by simp))
          have HR1 := Lib.hid (HL.out.keep (new1 (a := .cells #[] 33)))
          go_enter Try.func3, Try.ntmps3
          go_wp2_with (at_builtin; refine wpList_append_rv _ rfl (.tmp 38) (.tmp 39) rfl w.heap.size _ 0 [] rfl HO.out A2 n2 c2 l rfl HR1.out H2.out.symm (by omega) (by simp) ?_)
          intro A9 c9 w1 ho hb
          have HV9 := Lib.hid (Rv.of_own ho HL.out.1).1
          have HM1 := Lib.hid (Mi16.of_own ho H2.out)
          have HB1 := Lib.hid (new1.trans hb)
          have HS1 := Lib.hid HB1.out.size
          clear ho hb HO HR1
          have N1 := Lib.hid (C.new A0 A1 A9 c0 c1 c9 n0 n1 n2 a b l w1 (HA.out.keep HB1.out) (HB.out.keep HB1.out) HV9.out H0.out H1.out H2.out (by omega) (by omega) (by omega))
          go_wp2_with fail
          refine N1.out.mono ?_
          rintro e w2 ⟨hb, hr⟩
          have HB2 := Lib.hid (HB1.out.trans (hb.mono HB1.out.size))
          have HM2 := Lib.hid (HM1.out.fr (nb15 hb) fun _ _ => id)
          have N2 := Lib.hid (rnew16_v A0 A1 A2 c0 c1 c2 n0 n1 n2 a b l w2 (HA.out.keep HB2.out) (HB.out.keep HB2.out) (HL.out.keep HB2.out) H0.out H1.out H2.out)
          unfold Nw16 at N2
          have HS2 := Lib.hid hb.size
          clear hb N1
          rcases hr with ⟨hn, rfl⟩ | ⟨hn, B, X0, rfl, hp, hx⟩
          · have HN := Lib.hid hn
            clear hn
            go_wp2_with fail
            refine N2.out.mono ?_
            rintro e w3 ⟨hb3, hr⟩
            rcases hr with ⟨_, rfl⟩ | ⟨hn, _⟩
            · have HB3 := Lib.hid (HB2.out.trans (hb3.mono HB2.out.size))
              clear hb3 N2 HB1 HM1 HV9 HM2
              go_wp2_with fail
              go_ret
              exact ⟨rfl, HB3.out⟩
            · rw [HN.out] at hn; cases hn
          · have HN := Lib.hid hn
            have HP := Lib.hid hp
            have HX := Lib.hid hx
            clear hn hp hx
            go_wp2_with fail
            refine N2.out.mono ?_
            rintro e w3 ⟨hb3, hr⟩
            rcases hr with ⟨hn, _⟩ | ⟨_, B2, Y0, rfl, hp, hy⟩
            · rw [HN.out] at hn; cases hn
            · have S1 : Hid (Two15 w w2 (tK16 C X0 B (nF16 b l)) tN15) := Lib.hid ⟨HB2.out, HP.out, trivial, fun j hj => Nat.le_trans HB1.out.size (HX.out j hj), fun _ => False.elim, fun _ _ => id⟩
              have T1 : Hid (Two15 w w3 (tK16 C X0 B (nF16 b l)) (tQ16 Y0 B2 (nF16 b l))) := Lib.hid (S1.out.right (T' := tQ16 Y0 B2 (nF16 b l)) hp (nb15 hb3) (fun j hj => .inr (hy j hj)))
              have HM3 := Lib.hid (HM2.out.fr (nb15 hb3) fun _ _ => id)
              have HMX : Hid (∀ j, X0 j → ¬ mX16 A9 j) := Lib.hid (fun j hj hm => by have := HX.out j hj; have := HM1.out.lt j hm; omega)
              have HMY : Hid (∀ j, Y0 j → ¬ mX16 A9 j) := Lib.hid (fun j hj hm => by have := hy j hj; have := HM2.out.lt j hm; omega)
              have HMZ : Hid (∀ j, mX16 A9 j → w.heap.size ≤ j) := Lib.hid (fun j hj => by obtain ⟨M, _, _, h3⟩ := HM1.out; obtain ⟨z, hz, rfl⟩ := hj; exact h3 z hz)
              have HQ0 : Hid ((nF16 b l).q = 0) := Lib.hid rfl
              generalize nF16 b l = f0 at T1 HQ0
              clear hp hy hb3 N2 HB1 HM1 HV9 HM2 HS1 HS2 S1 HX HP HN HB2
              go_wp2_with fail
              go_loopw [14] (fun iv wr => ∃ i : Nat, i ≤ n2 ∧ iv = .int .i64 i ∧ Hid (Two15 w wr (tK16 C X0 B f0) (tQ16 Y0 B2 f0)) ∧ Hid (Mi16 w.heap.size A9 n2 c9 wr)) (fun iv _ => n2 - (intOf iv).toNat)
              case atStart => exact ⟨0, by omega, rfl, T1, HM3⟩
              case round =>
                clear T1 HM3
                obtain ⟨i, hi, rfl, HT, HM⟩ := hrel
                rename World => wr
                by_cases h1 : i < n2
                · obtain ⟨g, ⟨x0, x1, x2⟩, hA9, a0, a1, a2, hz, hm9, hf9⟩ := HM.out.at_ h1
                  have hz0 := hz (i * 3)
                  have hz1 := hz (i * 3 + 1)
                  have hz2 := hz (i * 3 + 2)
                  dsimp only at a0 a1 a2
                  have T9 := Lib.hid (HT.out.other hf9 HMX.out HMY.out HMZ.out)
                  have HM9 := Lib.hid hm9
                  subst hA9
                  clear hz hm9 hf9 HT HM
                  go_wp2_with fail
                  go_roundw
                  case rel => exact ⟨i + 1, by omega, by go_num, T9, HM9⟩
                  case measure => simp [intOf]; omega
                · obtain rfl : i = n2 := by omega
                  clear HM HMX HMY HMZ hi h1
                  go_wp2_with fail
                  go_loopw [15] (fun iv wr => ∃ (i : Nat) (X Y : Nat → Prop) (f : Fm), i ≤ n3 ∧ iv = .int .i64 i ∧ Hid (Two15 w wr (tK16 C X B f) (tQ16 Y B2 f)) ∧ Hid (f.q ≤ i)) (fun iv _ => n3 - (intOf iv).toNat)
                  case atStart => exact ⟨0, X0, Y0, f0, by omega, rfl, HT, Lib.hid (Nat.le_of_eq HQ0.out)⟩
                  case round =>
                    clear HT HQ0
                    obtain ⟨i, X, Y, f, hi, rfl, HT, HQ⟩ := hrel
                    rename World => wr
                    by_cases h1 : i < n3
                    · obtain ⟨⟨k, ai, an, v0, v1, v2⟩, hy⟩ : ∃ y, L[i]? = some y := ⟨_, List.getElem?_eq_getElem (by rw [H3.out]; exact h1)⟩
                      have HY := Lib.hid hy
                      clear hy
                      obtain ⟨ad, hA, hat, hok⟩ := (HR.out.keep HT.out.be).at_ HY.out
                      subst hA
                      have HAT0 := Lib.hid (fun (w' : World) (hb : Below w.heap.size w w') => show At16 w' (ad.add (i * 6)) ⟨k, ai, an, (v0, v1, v2)⟩ from by
                        obtain ⟨ad2, hA, hat, _⟩ := (HR.out.keep hb).at_ HY.out
                        injection hA with hA
                        subst hA
                        exact hat)
                      have HOK := Lib.hid hok
                      clear hat hok
                      have h2 : decide ((i : Int) < 0) = false := decide_eq_false (by omega)
                      have h3 : decide (n3 ≤ i) = false := decide_eq_false (by omega)
                      go_upto_region 15 with (fail)
                      have TD := Lib.hid (HT.out.keep (below_draws (Below.refl wr.heap.size wr) 1))
                      change Hid (Two15 w wr.drew _ _) at TD
                      have HAT := Lib.hid (HAT0.out _ TD.out.be)
                      refine wp_region_held_drew (S := fun w' => At16 w' (ad.add (i * 6)) ⟨k, ai, an, (v0, v1, v2)⟩) (by kernel_rfl) (HAT.out) (fun hHeld => ?_)
                      refine wpAnyH_take (i := 0) (v := ?_) rfl (by kernel_rfl) (by kernel_rfl) (by kernel_rfl) (fun _ _ _ h => h) (Or.inl ⟨by rfl, ?_⟩) (by assumption) ?_
                      rotate_left 1
                      · intro w _; go_simp; try with_reducible rfl
                      try simp only [Act.put, List.getElem_toArray, List.getElem_cons_zero, List.getElem_cons_succ, List.setIfInBounds_toArray, List.set_cons_zero, List.set_cons_succ]
                      refine wpAnyH_take (i := 1) (v := ?_) rfl (by kernel_rfl) (by kernel_rfl) (by kernel_rfl) (fun _ _ _ h => h) (Or.inl ⟨by rfl, ?_⟩) (by assumption) ?_
                      rotate_left 1
                      · intro w _; go_simp; try with_reducible rfl
                      try simp only [Act.put, List.getElem_toArray, List.getElem_cons_zero, List.getElem_cons_succ, List.setIfInBounds_toArray, List.set_cons_zero, List.set_cons_succ]
                      refine wpAnyH_take (i := 2) (v := ?_) rfl (by kernel_rfl) (by kernel_rfl) (by kernel_rfl) (fun _ _ _ h => h) (Or.inl ⟨by rfl, ?_⟩) (by assumption) ?_
                      rotate_left 1
                      · intro w _; go_simp; try with_reducible rfl
                      try simp only [Act.put, List.getElem_toArray, List.getElem_cons_zero, List.getElem_cons_succ, List.setIfInBounds_toArray, List.set_cons_zero, List.set_cons_succ]
                      refine wpAnyH_take (i := 3) (v := ?_) rfl (by kernel_rfl) (by kernel_rfl) (by kernel_rfl) (fun _ _ _ h => h) (Or.inl ⟨by rfl, ?_⟩) (by assumption) ?_
                      rotate_left 1
                      · intro w _; go_simp; try with_reducible rfl
                      try simp only [Act.put, List.getElem_toArray, List.getElem_cons_zero, List.getElem_cons_succ, List.setIfInBounds_toArray, List.set_cons_zero, List.set_cons_succ]
                      refine wpAnyH_take (i := 4) (v := ?_) rfl (by kernel_rfl) (by kernel_rfl) (by kernel_rfl) (fun _ _ _ h => h) (Or.inl ⟨by rfl, ?_⟩) (by assumption) ?_
                      rotate_left 1
                      · intro w _; go_simp; try with_reducible rfl
                      try simp only [Act.put, List.getElem_toArray, List.getElem_cons_zero, List.getElem_cons_succ, List.setIfInBounds_toArray, List.set_cons_zero, List.set_cons_succ]
                      refine wpAnyH_take (i := 5) (v := ?_) rfl (by kernel_rfl) (by kernel_rfl) (by kernel_rfl) (fun _ _ _ h => h) (Or.inl ⟨by rfl, ?_⟩) (by assumption) ?_
                      rotate_left 1
                      · intro w hSw; (try dsimp only at hSw); obtain ⟨s0, s1, s2, s3, s4, s5⟩ := hSw; dsimp only at s0 s1 s2 s3 s4 s5; go_simp; try with_reducible rfl
                      try simp only [Act.put, List.getElem_toArray, List.getElem_cons_zero, List.getElem_cons_succ, List.setIfInBounds_toArray, List.set_cons_zero, List.set_cons_succ]
                      refine wpAnyH_ready (rs := [6]) (by kernel_rfl) (by simp) ?_
                      refine AllReadyH.cons rfl (fun K hK => ?_) AllReadyH.nil
                      go_simp
                      have M1 := Lib.hid (does16_v C X Y B B2 f k ai an v0 v1 v2 w _ TD.out (by have := HQ.out; omega) HOK.out)
                      refine M1.out.mono ?_
                      rintro e w3 ⟨rfl, X1, Y1, f1, ht, hq⟩
                      have T3 := Lib.hid ht
                      have HQ3 := Lib.hid hq
                      clear ht hq M1
                      go_wp2_with fail
                      refine hK.out _ _ (HAT0.out _ T3.out.be) (fun hHeld => ?_)
                      clear hK K
                      refine wpAnyH_swap (S' := fun w' => At16 w' (ad.add (i * 6)) ⟨k, ai, an, (v0, v1, v2)⟩ ∧ w'.cell? ⟨B2, 2, none⟩ = some (.int .i64 f1.p)) (fun _ h => h.1) _ _ _ _ ?_
                      clear hHeld
                      have hHeld : (fun w' : World => At16 w' (ad.add (i * 6)) ⟨k, ai, an, (v0, v1, v2)⟩ ∧ w'.cell? ⟨B2, 2, none⟩ = some (.int .i64 f1.p)) w3 := ⟨HAT0.out _ T3.out.be, pl16 T3.out.t⟩
                      try simp only [Act.put, List.getElem_toArray, List.getElem_cons_zero, List.getElem_cons_succ, List.setIfInBounds_toArray, List.set_cons_zero, List.set_cons_succ]
                      refine wpAnyH_take (i := 7) (v := ?_) rfl (by kernel_rfl) (by kernel_rfl) (by kernel_rfl) (fun _ _ _ h => h) (Or.inl ⟨by rfl, ?_⟩) (by assumption) ?_
                      rotate_left 1
                      · intro w _; go_simp; try with_reducible rfl
                      try simp only [Act.put, List.getElem_toArray, List.getElem_cons_zero, List.getElem_cons_succ, List.setIfInBounds_toArray, List.set_cons_zero, List.set_cons_succ]
                      refine wpAnyH_take (i := 8) (v := ?_) rfl (by kernel_rfl) (by kernel_rfl) (by kernel_rfl) (fun _ _ _ h => h) (Or.inl ⟨by rfl, ?_⟩) (by assumption) ?_
                      rotate_left 1
                      · intro w _; go_simp; try with_reducible rfl
                      try simp only [Act.put, List.getElem_toArray, List.getElem_cons_zero, List.getElem_cons_succ, List.setIfInBounds_toArray, List.set_cons_zero, List.set_cons_succ]
                      refine wpAnyH_take (i := 9) (v := ?_) rfl (by kernel_rfl) (by kernel_rfl) (by kernel_rfl) (fun _ _ _ h => h) (Or.inl ⟨by rfl, ?_⟩) (by assumption) ?_
                      rotate_left 1
                      · intro w _; go_simp; try with_reducible rfl
                      try simp only [Act.put, List.getElem_toArray, List.getElem_cons_zero, List.getElem_cons_succ, List.setIfInBounds_toArray, List.set_cons_zero, List.set_cons_succ]
                      refine wpAnyH_take (i := 11) (v := ?_) rfl (by kernel_rfl) (by kernel_rfl) (by kernel_rfl) (fun _ _ _ h => h) (Or.inl ⟨by rfl, ?_⟩) (by assumption) ?_
                      rotate_left 1
                      · intro w _; go_simp; try with_reducible rfl
                      try simp only [Act.put, List.getElem_toArray, List.getElem_cons_zero, List.getElem_cons_succ, List.setIfInBounds_toArray, List.set_cons_zero, List.set_cons_succ]
                      refine wpAnyH_ready (rs := [10]) (by kernel_rfl) (by simp) ?_
                      refine AllReadyH.cons rfl (fun K hK => ?_) AllReadyH.nil
                      go_simp
                      have M2 := Lib.hid (C.size X1 B f1 w3 T3.out.s)
                      refine M2.out.mono ?_
                      rintro e w4 ⟨rfl, hb⟩
                      have T4 := Lib.hid (T3.out.keep hb)
                      clear hb M2
                      go_wp2_with fail
                      refine hK.out _ _ (⟨HAT0.out _ T4.out.be, pl16 T4.out.t⟩) (fun hHeld => ?_)
                      clear hK K
                      try simp only [Act.put, List.getElem_toArray, List.getElem_cons_zero, List.getElem_cons_succ, List.setIfInBounds_toArray, List.set_cons_zero, List.set_cons_succ]
                      refine wpAnyH_ready (rs := [12]) (by kernel_rfl) (by simp) ?_
                      refine AllReadyH.cons rfl (fun K hK => ?_) AllReadyH.nil
                      go_simp
                      have M3 := Lib.hid (rsize_v Y1 B2 f1 w4 T4.out.t)
                      refine M3.out.mono ?_
                      rintro e w5 ⟨rfl, hb⟩
                      have T5 := Lib.hid (T4.out.keep hb)
                      clear hb M3
                      go_wp2_with fail
                      refine hK.out _ _ (⟨HAT0.out _ T5.out.be, pl16 T5.out.t⟩) (fun hHeld => ?_)
                      clear hK K
                      try simp only [Act.put, List.getElem_toArray, List.getElem_cons_zero, List.getElem_cons_succ, List.setIfInBounds_toArray, List.set_cons_zero, List.set_cons_succ]
                      refine wpAnyH_take (i := 13) (v := ?_) rfl (by kernel_rfl) (by kernel_rfl) (by kernel_rfl) (fun _ _ _ h => h) (Or.inl ⟨by rfl, ?_⟩) (by assumption) ?_
                      rotate_left 1
                      · intro w _; go_simp; try with_reducible rfl
                      try simp only [Act.put, List.getElem_toArray, List.getElem_cons_zero, List.getElem_cons_succ, List.setIfInBounds_toArray, List.set_cons_zero, List.set_cons_succ]
                      refine wpAnyH_take (i := 14) (v := ?_) rfl (by kernel_rfl) (by kernel_rfl) (by kernel_rfl) (fun _ _ _ h => h) (Or.inl ⟨by rfl, ?_⟩) (by assumption) ?_
                      rotate_left 1
                      · intro w _; go_simp; try with_reducible rfl
                      try simp only [Act.put, List.getElem_toArray, List.getElem_cons_zero, List.getElem_cons_succ, List.setIfInBounds_toArray, List.set_cons_zero, List.set_cons_succ]
                      refine wpAnyH_take (i := 15) (v := ?_) rfl (by kernel_rfl) (by kernel_rfl) (by kernel_rfl) (fun _ _ _ h => h) (Or.inl ⟨by rfl, ?_⟩) (by assumption) ?_
                      rotate_left 1
                      · intro w _; go_simp; try with_reducible rfl
                      try simp only [Act.put, List.getElem_toArray, List.getElem_cons_zero, List.getElem_cons_succ, List.setIfInBounds_toArray, List.set_cons_zero, List.set_cons_succ]
                      refine wpAnyH_take (i := 16) (v := ?_) rfl (by kernel_rfl) (by kernel_rfl) (by kernel_rfl) (fun _ _ _ h => h) (Or.inl ⟨by rfl, ?_⟩) (by assumption) ?_
                      rotate_left 1
                      · intro w _; go_simp; try with_reducible rfl
                      try simp only [Act.put, List.getElem_toArray, List.getElem_cons_zero, List.getElem_cons_succ, List.setIfInBounds_toArray, List.set_cons_zero, List.set_cons_succ]
                      refine wpAnyH_take (i := 18) (v := ?_) rfl (by kernel_rfl) (by kernel_rfl) (by kernel_rfl) (fun _ _ _ h => h) (Or.inl ⟨by rfl, ?_⟩) (by assumption) ?_
                      rotate_left 1
                      · intro w _; go_simp; try with_reducible rfl
                      try simp only [Act.put, List.getElem_toArray, List.getElem_cons_zero, List.getElem_cons_succ, List.setIfInBounds_toArray, List.set_cons_zero, List.set_cons_succ]
                      refine wpAnyH_take (i := 19) (v := ?_) rfl (by kernel_rfl) (by kernel_rfl) (by kernel_rfl) (fun _ _ _ h => h) (Or.inl ⟨by rfl, ?_⟩) (by assumption) ?_
                      rotate_left 1
                      · intro w _; go_simp; try with_reducible rfl
                      try simp only [Act.put, List.getElem_toArray, List.getElem_cons_zero, List.getElem_cons_succ, List.setIfInBounds_toArray, List.set_cons_zero, List.set_cons_succ]
                      refine wpAnyH_take (i := 20) (v := ?_) rfl (by kernel_rfl) (by kernel_rfl) (by kernel_rfl) (fun _ _ _ h => h) (Or.inl ⟨by rfl, ?_⟩) (by assumption) ?_
                      rotate_left 1
                      · intro w _; go_simp; try with_reducible rfl
                      try simp only [Act.put, List.getElem_toArray, List.getElem_cons_zero, List.getElem_cons_succ, List.setIfInBounds_toArray, List.set_cons_zero, List.set_cons_succ]
                      refine wpAnyH_take (i := 21) (v := ?_) rfl (by kernel_rfl) (by kernel_rfl) (by kernel_rfl) (fun _ _ _ h => h) (Or.inl ⟨by rfl, ?_⟩) (by assumption) ?_
                      rotate_left 1
                      · intro w hSw; (try dsimp only at hSw); obtain ⟨-, s0⟩ := hSw; go_simp; try with_reducible rfl
                      try simp only [Act.put, List.getElem_toArray, List.getElem_cons_zero, List.getElem_cons_succ, List.setIfInBounds_toArray, List.set_cons_zero, List.set_cons_succ]
                      refine wpAnyH_ready (rs := [17]) (by kernel_rfl) (by simp) ?_
                      refine AllReadyH.cons rfl (fun K hK => ?_) AllReadyH.nil
                      go_simp
                      have M4 := Lib.hid (C.place X1 B f1 w5 T5.out.s)
                      refine M4.out.mono ?_
                      rintro e w6 ⟨rfl, hb⟩
                      have T6 := Lib.hid (T5.out.keep hb)
                      clear hb M4
                      go_wp2_with fail
                      refine hK.out _ _ (⟨HAT0.out _ T6.out.be, pl16 T6.out.t⟩) (fun hHeld => ?_)
                      clear hK K
                      try simp only [Act.put, List.getElem_toArray, List.getElem_cons_zero, List.getElem_cons_succ, List.setIfInBounds_toArray, List.set_cons_zero, List.set_cons_succ]
                      refine wpAnyH_take (i := 22) (v := ?_) rfl (by kernel_rfl) (by kernel_rfl) (by kernel_rfl) (fun _ _ _ h => h) (Or.inl ⟨by rfl, ?_⟩) (by assumption) ?_
                      rotate_left 1
                      · intro w _; go_simp; try with_reducible rfl
                      try simp only [Act.put, List.getElem_toArray, List.getElem_cons_zero, List.getElem_cons_succ, List.setIfInBounds_toArray, List.set_cons_zero, List.set_cons_succ]
                      refine wpAnyH_take (i := 23) (v := ?_) rfl (by kernel_rfl) (by kernel_rfl) (by kernel_rfl) (fun _ _ _ h => h) (Or.inl ⟨by rfl, ?_⟩) (by assumption) ?_
                      rotate_left 1
                      · intro w _; go_simp; try with_reducible rfl
                      try simp only [Act.put, List.getElem_toArray, List.getElem_cons_zero, List.getElem_cons_succ, List.setIfInBounds_toArray, List.set_cons_zero, List.set_cons_succ]
                      refine wpAnyH_done (by kernel_rfl) ?_ _
                      clear hHeld

                      clear TD HAT T3 T4 T5 HAT0 HT
                      obtain ⟨⟨g0, g1, g2⟩, hg⟩ : ∃ x, tV16 f1 = x := ⟨_, rfl⟩
                      obtain ⟨gb, hgb⟩ : ∃ x, tB16 f1 = x := ⟨_, rfl⟩
                      have M1 := Lib.hid (C.top X1 B f1 w6 T6.out.s)
                      rw [hg, hgb] at M1
                      unfold va16 at M1
                      dsimp only at M1
                      have qe := eq_val 9998 g0 g1 g2 g0 g1 g2 true (by simp)
                      go_wp2_with fail
                      refine M1.out.mono ?_
                      rintro e w7 ⟨rfl, hb⟩
                      have T7 := Lib.hid (T6.out.keep hb)
                      clear hb M1 T6
                      go_upto_region 18 with (fail)
                      have T8 := Lib.hid (T7.out.keep ((Below.refl _ w7).alloc (Nat.le_refl _) (.cells #[.int .u8 g0, .int .i64 g1, .int .i64 g2] 33)))
                      have HV8 := Lib.hid (World.alloc_heap_new w7 (.cells #[.int .u8 g0, .int .i64 g1, .int .i64 g2] 33))
                      generalize (w7.alloc (.cells #[.int .u8 g0, .int .i64 g1, .int .i64 g2] 33)) = w8 at T8 HV8 ⊢
                      generalize (w7.heap.size : Nat) = P3 at HV8 ⊢
                      clear T7
                      have M2 := Lib.hid (rtop_v Y1 B2 f1 w8 T8.out.t)
                      rw [hg, hgb] at M2
                      unfold va16 at M2
                      dsimp only at M2
                      clear hg hgb
                      go_wp2_with fail
                      refine M2.out.mono ?_
                      rintro e w9 ⟨rfl, hb⟩
                      have T9 := Lib.hid (T8.out.keep hb)
                      have hv9 := (hb.block P3 (Array.getElem?_eq_some_iff.1 HV8.out).1).trans HV8.out
                      have hl9 : P3 < w9.heap.size := (Array.getElem?_eq_some_iff.1 hv9).1
                      have d0 : w9.cell? ⟨P3, 0, none⟩ = some (.int .u8 g0) := by simp [World.cell?, hv9]
                      have d1 : w9.cell? ⟨P3, 1, none⟩ = some (.int .i64 g1) := by simp [World.cell?, hv9]
                      have d2 : w9.cell? ⟨P3, 2, none⟩ = some (.int .i64 g2) := by simp [World.cell?, hv9]
                      have T10 := Lib.hid (T9.out.keep ((Below.refl _ w9).alloc (Nat.le_refl _) (.cells #[.int .u8 g0, .int .i64 g1, .int .i64 g2] 33)))
                      clear hb hv9 M2 HV8 T8 T9
                      go_wp2_with fail
                      go_roundw
                      case rel => exact ⟨i + 1, X1, Y1, f1, by omega, by go_num, T10, Lib.hid (by have := HQ3.out; have := HQ.out; omega)⟩
                      case measure => simp [intOf]; omega
                    · obtain rfl : i = n3 := by omega
                      go_wp2_with fail
                      go_ret
                      exact ⟨rfl, HT.out.be⟩
end Go.Proofs.Ytkifapnmojfjoaa
