/-
  Law HeapPlays of layer 15.
-/
import Derived.Test.YtibiocjdkndnhaaYh
namespace Go.Proofs.Ytibiocjdkndnhaa
open Go.RowKit
set_option maxRecDepth 100000
set_option linter.unusedSimpArgs false
set_option linter.unusedVariables false

theorem abx15 {w : World} {P t : Nat} {k r j v : Int} (h : w.heap[P]? = some (.cells (ac15 (k, r, j, v)) t (0, 0))) : w.cell? ⟨P, 0, none⟩ = some (.int .u8 k) ∧ w.cell? ⟨P, 1, none⟩ = some (.int .i64 r) ∧ w.cell? ⟨P, 2, none⟩ = some (.int .i64 j) ∧ w.cell? ⟨P, 3, none⟩ = some (.int .i64 v) := by
  refine ⟨?_, ?_, ?_, ?_⟩ <;> simp [World.cell?, h, ac15]
theorem Hp15.us {X : Nat → Prop} {w : World} {B R : Nat} {Z : List (List Int)} (h : Hp15 X w B R Z) : us15 Z ≤ R ∧ R ≤ 1024 := by
  obtain ⟨g, ra, c, la, P, h, -⟩ := h
  exact ⟨h.room, h.big⟩
theorem mkZ15_len {R : Nat} {Z : List (List Int)} {v : Int} : (mkZ15 R Z v).length ≤ Z.length + 1 := by
  unfold mkZ15
  split
  · simp
  · omega
set_option maxHeartbeats 8000000 in
theorem plays15_walk (x : Int) (A : Option Addr) (n c : Nat) (L : List A15) (w : World) (hr : Ra15 w A c L) (hn : L.length = n) :
    Calls Try.prog 3 #[.int .i64 x, .slice A n c] w fun e w' => e = .returned (.bool true) ∧ Below w.heap.size w w' := by
  have HN := Lib.hid hn
  have HR := Lib.hid hr
  clear hn hr
  by_cases h0 : 100 < n
  · go_enter Try.func3, Try.ntmps3
    go_wp2_with fail
    go_ret
    exact ⟨rfl, Below.refl _ _⟩
  · by_cases hx : x < 0 ∨ 1024 < x
    · have N1 := Lib.hid (new15_no x w hx)
      have N2 := Lib.hid (rnew_no x w hx)
      clear hx
      go_enter Try.func3, Try.ntmps3
      go_wp2_with fail
      refine N1.out.mono ?_
      rintro e w1 ⟨rfl, rfl⟩
      go_wp2_with fail
      refine N2.out.mono ?_
      rintro e w2 ⟨rfl, rfl⟩
      go_wp2_with fail
      go_ret
      exact ⟨rfl, Below.refl _ _⟩
    · obtain ⟨R, rfl⟩ : ∃ R : Nat, x = (R : Int) := ⟨x.toNat, by omega⟩
      have hR : R ≤ 1024 := by omega
      have N1 := Lib.hid (new15_v R w hR)
      clear hx
      go_enter Try.func3, Try.ntmps3
      go_wp2_with fail
      refine N1.out.mono ?_
      rintro e w1 ⟨B, X0, rfl, hp, hb, hx⟩
      have S1 : Hid (Two15 w w1 (tH15 X0 B R [[]]) tN15) := Lib.hid ⟨hb, hp, trivial, hx, fun _ => False.elim, fun _ _ => id⟩
      clear hp hb hx N1
      have N2 := Lib.hid (rnew_v R w1 hR)
      go_wp2_with fail
      refine N2.out.mono ?_
      rintro e w2 ⟨B2, Y0, rfl, hp, hb, hx⟩
      have T1 : Hid (Two15 w w2 (tH15 X0 B R [[]]) (tR15 Y0 B2 R [[]])) := Lib.hid (S1.out.right (T' := tR15 Y0 B2 R [[]]) hp (nb15 hb) (fun j hj => .inr (hx j hj)))
      clear hp hb hx N2 S1
      go_wp2_with fail
      go_loopw [9] (fun iv wr => ∃ (i : Nat) (X Y : Nat → Prop) (Z : List (List Int)), i ≤ n ∧ iv = .int .i64 i ∧ Hid (Two15 w wr (tH15 X B R Z) (tR15 Y B2 R Z)) ∧ Hid (Z.length ≤ i + 1)) (fun iv _ => n - (intOf iv).toNat)
      case atStart => exact ⟨0, X0, Y0, [[]], by omega, rfl, T1, Lib.hid (by simp)⟩
      case round =>
        clear T1
        obtain ⟨i, X, Y, Z, hi, rfl, HT, HZ⟩ := hrel
        rename World => wr
        by_cases h1 : i < n
        · obtain ⟨y, hy⟩ : ∃ y, L[i]? = some y := ⟨_, List.getElem?_eq_getElem (by rw [HN.out]; exact h1)⟩
          obtain ⟨ad, hA, hat, hok⟩ := (HR.out.keep HT.out.be).at_ hy
          subst hA
          obtain ⟨k, r, j, v⟩ := y
          obtain ⟨a0, a1, a2, a3⟩ := hat
          dsimp only at a0 a1 a2 a3
          have hk0 : 0 ≤ k := hok.1.1
          have hk1 : k < 256 := hok.1.2
          clear hy hok
          go_upto_region 11 with (fail)
          have T2 := Lib.hid (HT.out.keep ((Below.refl _ wr).alloc (Nat.le_refl _) (.cells (ac15 (k, r, j, v)) 31)))
          have HB2 := Lib.hid (World.alloc_heap_new wr (.cells (ac15 (k, r, j, v)) 31))
          have HPX : Hid (¬ X wr.heap.size) := Lib.hid (fun h => Nat.lt_irrefl _ ((tH15 X B R Z).lt _ HT.out.s _ h))
          have HPY : Hid (¬ Y wr.heap.size) := Lib.hid (fun h => Nat.lt_irrefl _ ((tR15 Y B2 R Z).lt _ HT.out.t _ h))
          change Code.wp _ _ _ _ (wr.alloc (.cells (ac15 (k, r, j, v)) 31))
          generalize (wr.alloc (.cells (ac15 (k, r, j, v)) 31)) = w2 at T2 HB2 ⊢
          generalize (wr.heap.size : Nat) = P at HB2 HPX HPY ⊢
          clear a0 a1 a2 a3 HT
          obtain ⟨b0, b1, b2, b3⟩ := abx15 HB2.out
          have hq4 : 0 ≤ k.tmod 4 ∧ k.tmod 4 < 4 := by rw [Int.tmod_eq_emod_of_nonneg hk0]; omega
          by_cases q0 : k.tmod 4 = 0
          · clear hq4
            have M1 := Lib.hid (make15_v X B R Z v _ T2.out.s (by have := HZ.out; omega))
            go_wp2_with fail
            refine M1.out.mono ?_
            rintro e w3 ⟨rfl, X1, hp, hf, hx⟩
            have T3 := Lib.hid (T2.out.left (S' := tH15 X1 B R (mkZ15 R Z v)) hp hf hx)
            have HB3 := Lib.hid ((hf.block P (Array.getElem?_eq_some_iff.1 HB2.out).1 HPX.out).trans HB2.out)
            have hus := (T2.out.s : Hp15 X w2 B R Z).us
            clear hp hf hx M1 b0 b1 b2 b3
            obtain ⟨b0, b1, b2, b3⟩ := abx15 HB3.out
            have M2 := Lib.hid (rmake_v Y B2 R Z v _ T3.out.t (by have := HZ.out; omega) (by omega) (by omega))
            clear hus
            go_wp2_with fail
            refine M2.out.mono ?_
            rintro e w4 ⟨rfl, Y1, hp, hf, hx⟩
            have T4 := Lib.hid (T3.out.right (T' := tR15 Y1 B2 R (mkZ15 R Z v)) hp hf hx)
            clear hp hf hx M2 b0 b1 b2 b3
            go_wp2_with fail
            have HU := Lib.hid (used15_v X1 B R (mkZ15 R Z v) w4 T4.out.s (by have := @mkZ15_len R Z v; have := HZ.out; omega))
            have hus := (T4.out.s : Hp15 X1 w4 B R (mkZ15 R Z v)).us
            go_wp2_with fail
            refine HU.out.mono ?_
            rintro e w8 ⟨rfl, hb⟩
            have T8 := Lib.hid (T4.out.keep hb)
            clear hb HU
            have HV := Lib.hid (rused_v Y1 B2 R (mkZ15 R Z v) w8 T8.out.t (by have := @mkZ15_len R Z v; have := HZ.out; omega) (by omega))
            clear hus
            go_wp2_with fail
            refine HV.out.mono ?_
            rintro e w9 ⟨rfl, rfl⟩
            clear HV
            go_wp2_with fail
            go_roundw
            case rel => exact ⟨i + 1, X1, Y1, mkZ15 R Z v, by omega, by go_num, T8, Lib.hid (by have := @mkZ15_len R Z v; have := HZ.out; omega)⟩
            case measure => simp [intOf]; omega
          · by_cases q1 : k.tmod 4 = 1
            · clear hq4 q0
              go_upto_region 22 with (fail)
              have TD := Lib.hid (T2.out.keep (below_draws (Below.refl w2.heap.size w2) 1))
              have HBD : Hid (w2.drew.heap[P]? = some (.cells (ac15 (k, r, j, v)) 31 (0, 0))) := HB2
              change Hid (Two15 w w2.drew _ _) at TD
              clear b0 b1 b2 b3
              have HP1 := Lib.hid (put15_v X B R Z r j v _ TD.out.s (by have := HZ.out; omega))
              refine wp_region_held_drew (S := fun w' => w'.heap[P]? = some (.cells (ac15 (k, r, j, v)) 31 (0, 0))) (by kernel_rfl) (HBD.out) (fun hHeld => ?_)
              refine wpAnyH_take (i := 0) (v := ?_) rfl (by kernel_rfl) (by kernel_rfl) (by kernel_rfl) (fun _ _ _ h => h) (Or.inl ⟨by rfl, ?_⟩) (by assumption) ?_
              rotate_left 1
              · intro w _; go_simp; try with_reducible rfl
              try simp only [Act.put, List.getElem_toArray, List.getElem_cons_zero, List.getElem_cons_succ, List.setIfInBounds_toArray, List.set_cons_zero, List.set_cons_succ]
              refine wpAnyH_take (i := 1) (v := ?_) rfl (by kernel_rfl) (by kernel_rfl) (by kernel_rfl) (fun _ _ _ h => h) (Or.inl ⟨by rfl, ?_⟩) (by assumption) ?_
              rotate_left 1
              · intro w _; go_simp; try with_reducible rfl
              try simp only [Act.put, List.getElem_toArray, List.getElem_cons_zero, List.getElem_cons_succ, List.setIfInBounds_toArray, List.set_cons_zero, List.set_cons_succ]
              refine wpAnyH_take (i := 2) (v := ?_) rfl (by kernel_rfl) (by kernel_rfl) (by kernel_rfl) (fun _ _ _ h => h) (Or.inl ⟨by rfl, ?_⟩) (by assumption) ?_
              rotate_left 1
              · intro w hSw; (try dsimp only at hSw); obtain ⟨-, s1, s2, s3⟩ := abx15 hSw; go_simp; try with_reducible rfl
              try simp only [Act.put, List.getElem_toArray, List.getElem_cons_zero, List.getElem_cons_succ, List.setIfInBounds_toArray, List.set_cons_zero, List.set_cons_succ]
              refine wpAnyH_take (i := 3) (v := ?_) rfl (by kernel_rfl) (by kernel_rfl) (by kernel_rfl) (fun _ _ _ h => h) (Or.inl ⟨by rfl, ?_⟩) (by assumption) ?_
              rotate_left 1
              · intro w _; go_simp; try with_reducible rfl
              try simp only [Act.put, List.getElem_toArray, List.getElem_cons_zero, List.getElem_cons_succ, List.setIfInBounds_toArray, List.set_cons_zero, List.set_cons_succ]
              refine wpAnyH_take (i := 4) (v := ?_) rfl (by kernel_rfl) (by kernel_rfl) (by kernel_rfl) (fun _ _ _ h => h) (Or.inl ⟨by rfl, ?_⟩) (by assumption) ?_
              rotate_left 1
              · intro w hSw; (try dsimp only at hSw); obtain ⟨-, s1, s2, s3⟩ := abx15 hSw; go_simp; try with_reducible rfl
              try simp only [Act.put, List.getElem_toArray, List.getElem_cons_zero, List.getElem_cons_succ, List.setIfInBounds_toArray, List.set_cons_zero, List.set_cons_succ]
              refine wpAnyH_take (i := 5) (v := ?_) rfl (by kernel_rfl) (by kernel_rfl) (by kernel_rfl) (fun _ _ _ h => h) (Or.inl ⟨by rfl, ?_⟩) (by assumption) ?_
              rotate_left 1
              · intro w _; go_simp; try with_reducible rfl
              try simp only [Act.put, List.getElem_toArray, List.getElem_cons_zero, List.getElem_cons_succ, List.setIfInBounds_toArray, List.set_cons_zero, List.set_cons_succ]
              refine wpAnyH_take (i := 6) (v := ?_) rfl (by kernel_rfl) (by kernel_rfl) (by kernel_rfl) (fun _ _ _ h => h) (Or.inl ⟨by rfl, ?_⟩) (by assumption) ?_
              rotate_left 1
              · intro w hSw; (try dsimp only at hSw); obtain ⟨-, s1, s2, s3⟩ := abx15 hSw; go_simp; try with_reducible rfl
              try simp only [Act.put, List.getElem_toArray, List.getElem_cons_zero, List.getElem_cons_succ, List.setIfInBounds_toArray, List.set_cons_zero, List.set_cons_succ]
              refine wpAnyH_take (i := 8) (v := ?_) rfl (by kernel_rfl) (by kernel_rfl) (by kernel_rfl) (fun _ _ _ h => h) (Or.inl ⟨by rfl, ?_⟩) (by assumption) ?_
              rotate_left 1
              · intro w _; go_simp; try with_reducible rfl
              try simp only [Act.put, List.getElem_toArray, List.getElem_cons_zero, List.getElem_cons_succ, List.setIfInBounds_toArray, List.set_cons_zero, List.set_cons_succ]
              refine wpAnyH_take (i := 9) (v := ?_) rfl (by kernel_rfl) (by kernel_rfl) (by kernel_rfl) (fun _ _ _ h => h) (Or.inl ⟨by rfl, ?_⟩) (by assumption) ?_
              rotate_left 1
              · intro w _; go_simp; try with_reducible rfl
              try simp only [Act.put, List.getElem_toArray, List.getElem_cons_zero, List.getElem_cons_succ, List.setIfInBounds_toArray, List.set_cons_zero, List.set_cons_succ]
              refine wpAnyH_take (i := 10) (v := ?_) rfl (by kernel_rfl) (by kernel_rfl) (by kernel_rfl) (fun _ _ _ h => h) (Or.inl ⟨by rfl, ?_⟩) (by assumption) ?_
              rotate_left 1
              · intro w hSw; (try dsimp only at hSw); obtain ⟨-, s1, s2, s3⟩ := abx15 hSw; go_simp; try with_reducible rfl
              try simp only [Act.put, List.getElem_toArray, List.getElem_cons_zero, List.getElem_cons_succ, List.setIfInBounds_toArray, List.set_cons_zero, List.set_cons_succ]
              refine wpAnyH_take (i := 11) (v := ?_) rfl (by kernel_rfl) (by kernel_rfl) (by kernel_rfl) (fun _ _ _ h => h) (Or.inl ⟨by rfl, ?_⟩) (by assumption) ?_
              rotate_left 1
              · intro w _; go_simp; try with_reducible rfl
              try simp only [Act.put, List.getElem_toArray, List.getElem_cons_zero, List.getElem_cons_succ, List.setIfInBounds_toArray, List.set_cons_zero, List.set_cons_succ]
              refine wpAnyH_take (i := 12) (v := ?_) rfl (by kernel_rfl) (by kernel_rfl) (by kernel_rfl) (fun _ _ _ h => h) (Or.inl ⟨by rfl, ?_⟩) (by assumption) ?_
              rotate_left 1
              · intro w hSw; (try dsimp only at hSw); obtain ⟨-, s1, s2, s3⟩ := abx15 hSw; go_simp; try with_reducible rfl
              try simp only [Act.put, List.getElem_toArray, List.getElem_cons_zero, List.getElem_cons_succ, List.setIfInBounds_toArray, List.set_cons_zero, List.set_cons_succ]
              refine wpAnyH_take (i := 13) (v := ?_) rfl (by kernel_rfl) (by kernel_rfl) (by kernel_rfl) (fun _ _ _ h => h) (Or.inl ⟨by rfl, ?_⟩) (by assumption) ?_
              rotate_left 1
              · intro w _; go_simp; try with_reducible rfl
              try simp only [Act.put, List.getElem_toArray, List.getElem_cons_zero, List.getElem_cons_succ, List.setIfInBounds_toArray, List.set_cons_zero, List.set_cons_succ]
              refine wpAnyH_take (i := 14) (v := ?_) rfl (by kernel_rfl) (by kernel_rfl) (by kernel_rfl) (fun _ _ _ h => h) (Or.inl ⟨by rfl, ?_⟩) (by assumption) ?_
              rotate_left 1
              · intro w hSw; (try dsimp only at hSw); obtain ⟨-, s1, s2, s3⟩ := abx15 hSw; go_simp; try with_reducible rfl
              try simp only [Act.put, List.getElem_toArray, List.getElem_cons_zero, List.getElem_cons_succ, List.setIfInBounds_toArray, List.set_cons_zero, List.set_cons_succ]
              refine wpAnyH_ready (rs := [7]) (by kernel_rfl) (by simp) ?_
              refine AllReadyH.cons rfl (fun K hK => ?_) AllReadyH.nil
              go_simp
              refine HP1.out.mono ?_
              rintro e w3 ⟨rfl, hp, hf⟩
              have T3 := Lib.hid (TD.out.left (S' := tH15 X B R (put15 Z r j v)) hp hf fun _ => .inl)
              have HB3 := Lib.hid ((hf.block P (Array.getElem?_eq_some_iff.1 HBD.out).1 HPX.out).trans HBD.out)
              clear hp hf
              go_wp2_with fail
              refine hK.out _ _ (HB3.out) (fun hHeld => ?_)
              clear hK K
              try simp only [Act.put, List.getElem_toArray, List.getElem_cons_zero, List.getElem_cons_succ, List.setIfInBounds_toArray, List.set_cons_zero, List.set_cons_succ]
              refine wpAnyH_ready (rs := [15]) (by kernel_rfl) (by simp) ?_
              refine AllReadyH.cons rfl (fun K hK => ?_) AllReadyH.nil
              go_simp
              have HP2 := Lib.hid (rput_v Y B2 R Z r j v _ T3.out.t)
              refine HP2.out.mono ?_
              rintro e w4 ⟨rfl, hp, hf⟩
              have T4 := Lib.hid (T3.out.right (T' := tR15 Y B2 R (put15 Z r j v)) hp hf fun _ => .inl)
              have HB4 := Lib.hid ((hf.block P (Array.getElem?_eq_some_iff.1 HB3.out).1 HPY.out).trans HB3.out)
              clear hp hf
              go_wp2_with fail
              refine hK.out _ _ (HB4.out) (fun hHeld => ?_)
              clear hK K
              try simp only [Act.put, List.getElem_toArray, List.getElem_cons_zero, List.getElem_cons_succ, List.setIfInBounds_toArray, List.set_cons_zero, List.set_cons_succ]
              refine wpAnyH_take (i := 16) (v := ?_) rfl (by kernel_rfl) (by kernel_rfl) (by kernel_rfl) (fun _ _ _ h => h) (Or.inl ⟨by rfl, ?_⟩) (by assumption) ?_
              rotate_left 1
              · intro w _; go_simp; try with_reducible rfl
              try simp only [Act.put, List.getElem_toArray, List.getElem_cons_zero, List.getElem_cons_succ, List.setIfInBounds_toArray, List.set_cons_zero, List.set_cons_succ]
              refine wpAnyH_done (by kernel_rfl) ?_ _
              clear hHeld

              clear TD HBD HP1 HP2 T3 HB3 HB4
              have HU := Lib.hid (used15_v X B R (put15 Z r j v) w4 T4.out.s (by have := @len15_put Z v r j; have := HZ.out; omega))
              have hus := (T4.out.s : Hp15 X w4 B R (put15 Z r j v)).us
              go_wp2_with fail
              refine HU.out.mono ?_
              rintro e w8 ⟨rfl, hb⟩
              have T8 := Lib.hid (T4.out.keep hb)
              clear hb HU
              have HV := Lib.hid (rused_v Y B2 R (put15 Z r j v) w8 T8.out.t (by have := @len15_put Z v r j; have := HZ.out; omega) (by omega))
              clear hus
              go_wp2_with fail
              refine HV.out.mono ?_
              rintro e w9 ⟨rfl, rfl⟩
              clear HV
              go_wp2_with fail
              go_roundw
              case rel => exact ⟨i + 1, X, Y, put15 Z r j v, by omega, by go_num, T8, Lib.hid (by have := @len15_put Z v r j; have := HZ.out; omega)⟩
              case measure => simp [intOf]; omega
            · by_cases q2 : k.tmod 4 = 2
              · clear hq4 q0 q1
                have M1 := Lib.hid (at15_v X B R Z r j _ T2.out.s (by have := HZ.out; omega))
                have M2 := Lib.hid (rat_v Y B2 R Z r j _ T2.out.t)
                go_wp2_with fail
                refine M1.out.mono ?_
                rintro e w3 ⟨rfl, rfl⟩
                go_wp2_with fail
                refine M2.out.mono ?_
                rintro e w4 ⟨rfl, rfl⟩
                clear M1 M2 b0 b1 b2 b3
                go_wp2_with fail
                have HU := Lib.hid (used15_v X B R (Z) _ T2.out.s (by have := HZ.out; omega))
                have hus := (T2.out.s : Hp15 X _ B R (Z)).us
                go_wp2_with fail
                refine HU.out.mono ?_
                rintro e w8 ⟨rfl, hb⟩
                have T8 := Lib.hid (T2.out.keep hb)
                clear hb HU
                have HV := Lib.hid (rused_v Y B2 R (Z) w8 T8.out.t (by have := HZ.out; omega) (by omega))
                clear hus
                go_wp2_with fail
                refine HV.out.mono ?_
                rintro e w9 ⟨rfl, rfl⟩
                clear HV
                go_wp2_with fail
                go_roundw
                case rel => exact ⟨i + 1, X, Y, Z, by omega, by go_num, T8, Lib.hid (by have := HZ.out; have := HZ.out; omega)⟩
                case measure => simp [intOf]; omega
              · have q3 : k.tmod 4 = 3 := by omega
                clear hq4 q0 q1 q2
                have M1 := Lib.hid (len15_v X B R Z r _ T2.out.s (by have := HZ.out; omega))
                have M2 := Lib.hid (rlen_v Y B2 R Z r _ T2.out.t)
                go_wp2_with fail
                refine M1.out.mono ?_
                rintro e w3 ⟨rfl, rfl⟩
                go_wp2_with fail
                refine M2.out.mono ?_
                rintro e w4 ⟨rfl, rfl⟩
                clear M1 M2 b0 b1 b2 b3
                go_wp2_with fail
                have HU := Lib.hid (used15_v X B R (Z) _ T2.out.s (by have := HZ.out; omega))
                have hus := (T2.out.s : Hp15 X _ B R (Z)).us
                go_wp2_with fail
                refine HU.out.mono ?_
                rintro e w8 ⟨rfl, hb⟩
                have T8 := Lib.hid (T2.out.keep hb)
                clear hb HU
                have HV := Lib.hid (rused_v Y B2 R (Z) w8 T8.out.t (by have := HZ.out; omega) (by omega))
                clear hus
                go_wp2_with fail
                refine HV.out.mono ?_
                rintro e w9 ⟨rfl, rfl⟩
                clear HV
                go_wp2_with fail
                go_roundw
                case rel => exact ⟨i + 1, X, Y, Z, by omega, by go_num, T8, Lib.hid (by have := HZ.out; have := HZ.out; omega)⟩
                case measure => simp [intOf]; omega
        · obtain rfl : i = n := by omega
          go_wp2_with fail
          go_ret
          exact ⟨rfl, HT.out.be⟩
end Go.Proofs.Ytibiocjdkndnhaa
