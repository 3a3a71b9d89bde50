/-
  Layer 7: what Fits answers, the program's and the reference's.
-/
import Derived.Test.YtjdalgejejllgaaDoorHv
import Derived.Test.YtjdalgejejllgaaDoorHm
import Derived.Test.YtjdalgejejllgaaDoorLe
namespace Go.Proofs.YtjdalgejejllgaaDoor
open Go.RowKit
set_option maxRecDepth 100000
set_option linter.unusedSimpArgs false
set_option linter.unusedVariables false

theorem fitL_len {K : List Int} {X : List Vlu} (h : K.length ≠ X.length) : fitL K X = false := by
  induction K generalizing X with
  | nil => cases X with
    | nil => exact absurd rfl h
    | cons x X => rfl
  | cons k K ih => cases X with
    | nil => rfl
    | cons x X => rw [fitL, ih (by simpa using h), Bool.and_false]
theorem fitL_at {K : List Int} {X : List Vlu} {j : Nat} (h : j < K.length) (h2 : j < X.length) : fitL (K.drop j) (X.drop j) = (((X[j]).1 == K[j] && insB (X[j]).1 (X[j]).2.1 (X[j]).2.2) && fitL (K.drop (j + 1)) (X.drop (j + 1))) := by
  rw [List.drop_eq_getElem_cons h, List.drop_eq_getElem_cons h2, fitL]
theorem fitL_end {K : List Int} {X : List Vlu} (h : K.length = X.length) : fitL (K.drop X.length) (X.drop X.length) = true := by
  rw [List.drop_of_length_le (by omega), List.drop_of_length_le (by omega), fitL]
set_option maxHeartbeats 4000000 in
theorem mfits_v (x : Mc) (m : Mh) (A : Option Addr) (c n : Nat) (X : List Vlu) (v : Bool) (w : World) (hx : Hd w x m) (hw : GM w) (hA : Rv w A c X) (hn : X.length = n) (hv : mF m X = v) :
    Calls Tryd.prog 15 #[mv x m, .slice A n c] w fun e w' => e = .returned (.bool v) ∧ Below w.heap.size w w' := by
  subst hn
  have hlx := hA.len
  have hla := hx.la
  have S0 := Lib.hid (((((Sx.start w).add fGM hw).add (fH x m) hx).add (fW A c X) hA).mkM x m)
  clear hx hA hw
  obtain ⟨-, ⟨z0, z1, z2, z3, z4, z5, z6, z7, z8⟩, -⟩ := S0.out
  cases hm : mM m with
  | false =>
    have HN : Hid (v = false) := by rw [Hid, ← hv, mF, hm]; rfl
    have P1 := Lib.hid (mmay_v x m _ _ S0.out.2.2.2.1 S0.out.2.2.2.2.1 hm)
    clear hv hm
    go_enter Tryd.func15, Tryd.ntmps15
    go_wp2_with fail
    refine P1.out.mono ?_
    rintro e w1 ⟨rfl, hb1⟩
    have S1 := Lib.hid (S0.out.call hb1)
    clear hb1 P1 S0 z0 z1 z2 z3 z4 z5 z6 z7 z8
    go_wp2_with fail
    go_ret
    exact ⟨by rw [HN.out]; rfl, S1.out.1⟩
  | true =>
    have HV : Hid (fitL m.a X = v) := by rw [Hid, ← hv, mF, hm]; rfl
    have P1 := Lib.hid (mmay_v x m _ _ S0.out.2.2.2.1 S0.out.2.2.2.2.1 hm)
    clear hv hm
    go_enter Tryd.func15, Tryd.ntmps15
    go_wp2_with fail
    refine P1.out.mono ?_
    rintro e w1 ⟨rfl, hb1⟩
    have S1 := Lib.hid (S0.out.call hb1)
    clear hb1 P1 S0 z0 z1 z2 z3 z4 z5 z6 z7 z8
    obtain ⟨-, ⟨z0, z1, z2, z3, z4, z5, z6, z7, z8⟩, -⟩ := S1.out
    by_cases hl : m.a.length = X.length
    · have HL := Lib.hid hl
      have e1 : ((X.length : Int) != (m.a.length : Int)) = false := by simp [hl]
      clear hl
      obtain ⟨XA, hXA⟩ : ∃ XA, x.A = XA := ⟨_, rfl⟩
      rw [hXA] at z1
      go_wp2_with fail
      clear z0 z1 z2 z3 z4 z5 z6 z7 z8
      have S3 : Hid (Sx w w1 [fM w.heap.size x m, fW A c X, fR XA x.c m.a]) := ⟨S1.out.1, S1.out.2.1, S1.out.2.2.1, by have := S1.out.2.2.2.1.1; rw [hXA] at this; exact this, trivial⟩
      clear S1 e1
      go_loopw [20] (fun i wr => ∃ j : Nat, j ≤ X.length ∧ i = .int .i64 j ∧ Hid (fitL m.a X = fitL (m.a.drop j) (X.drop j)) ∧ Hid (Sx w wr [fM w.heap.size x m, fW A c X, fR XA x.c m.a])) (fun i _ => X.length - (intOf i).toNat)
      case atStart => exact ⟨0, by omega, rfl, by simp [Hid], S3⟩
      case round =>
        obtain ⟨j, hj, rfl, HT, S1⟩ := hrel
        clear S3
        by_cases h1 : j < X.length
        · have h1a : j < m.a.length := by rw [HL.out]; exact h1
          obtain ⟨ad, rfl, hc⟩ := S1.out.2.2.2.1.at_ h1a
          clear hc
          obtain ⟨ad2, rfl, hc0, hc1, hc2⟩ := S1.out.2.2.1.at_ h1
          have HX : Hid (∀ w', Rv w' (some ad2) c X → w'.cell? (ad2.add (j * 3)) = some (.int .u8 (X[j]).1) ∧ w'.cell? ⟨(ad2.add (j * 3)).block, (ad2.add (j * 3)).off + 1, none⟩ = some (.int .i64 (X[j]).2.1) ∧ w'.cell? ⟨(ad2.add (j * 3)).block, (ad2.add (j * 3)).off + 2, none⟩ = some (.int .i64 (X[j]).2.2)) := by
            intro w' h
            obtain ⟨ad', e', h'⟩ := h.at_ h1
            obtain rfl := Option.some.inj e'
            exact h'
          have HC : Hid (∀ w', Rd w' (some ad) x.c m.a → w'.cell? (ad.add j) = some (.int .u8 m.a[j])) := by
            intro w' h
            obtain ⟨ad', e', h'⟩ := h.at_ h1a
            obtain rfl := Option.some.inj e'
            rw [List.getElem?_eq_getElem h1a] at h'
            simpa using h'
          obtain ⟨u, hu⟩ : ∃ u, insB (X[j]).1 (X[j]).2.1 (X[j]).2.2 = u := ⟨_, rfl⟩
          have HU := Lib.hid hu
          clear hu
          by_cases he : (X[j]).1 = m.a[j]
          · have HE : Hid (((X[j]).1 == m.a[j]) = true) := by rw [Hid]; simpa using he
            have e0 : ((X[j]).1 != m.a[j]) = false := by simpa using he
            clear he
            obtain ⟨k, hk⟩ : ∃ k, (X[j]).1 = k := ⟨_, rfl⟩
            obtain ⟨p, hp⟩ : ∃ p, (X[j]).2.1 = p := ⟨_, rfl⟩
            obtain ⟨q, hq⟩ : ∃ q, (X[j]).2.2 = q := ⟨_, rfl⟩
            obtain ⟨y, hy⟩ : ∃ y, m.a[j] = y := ⟨_, rfl⟩
            have HAT : Hid (fitL (m.a.drop j) (X.drop j) = ((true && u) && fitL (m.a.drop (j + 1)) (X.drop (j + 1)))) := by rw [Hid, fitL_at h1a h1, HE.out, HU.out]
            clear HE
            rw [hk, hp, hq] at HU HX
            rw [hk] at hc0
            rw [hp] at hc1
            rw [hq] at hc2
            rw [hk, hy] at e0
            rw [hy] at HC
            clear hk hp hq hy
            go_upto_region 6 with (fail)
            generalize hg : wr.heap.size = g at *
            have S2 : Hid (Sx w (wr.alloc (.cells #[.int .u8 k, .int .i64 p, .int .i64 q] 42)) [fV g k p q, fM w.heap.size x m, fW (some ad2) c X, fR (some ad) x.c m.a]) := by subst hg; exact Lib.hid (S1.out.mkV k p q)
            clear S1 hc0 hc1 hc2
            generalize wr.alloc (.cells #[.int .u8 k, .int .i64 p, .int .i64 q] 42) = w5 at S2 ⊢
            refine wp_region_held_drew (S := fun w' => Hid (Sx w w' [fV g k p q, fM w.heap.size x m, fW (some ad2) c X, fR (some ad) x.c m.a])) (by kernel_rfl) (Hsx.drew S2) (fun hHeld => ?_)
            refine wpAnyH_take (i := 0) (v := ?_) rfl (by kernel_rfl) (by kernel_rfl) (by kernel_rfl) (fun _ _ _ h => h) (Or.inl ⟨by rfl, ?_⟩) (by assumption) ?_
            rotate_left 1
            · intro w _; go_simp; try with_reducible rfl
            try simp only [Act.put, List.getElem_toArray, List.getElem_cons_zero, List.getElem_cons_succ, List.setIfInBounds_toArray, List.set_cons_zero, List.set_cons_succ]
            refine wpAnyH_take (i := 1) (v := ?_) rfl (by kernel_rfl) (by kernel_rfl) (by kernel_rfl) (fun _ _ _ h => h) (Or.inl ⟨by rfl, ?_⟩) (by assumption) ?_
            rotate_left 1
            · intro w hSw; (try dsimp only at hSw); obtain ⟨-, ⟨-, y1, y2, y3, -⟩, ⟨z0, z1, z2, z3, z4, z5, z6, z7, z8⟩, hW, hR, -⟩ := hSw.out; go_simp; try with_reducible rfl
            try simp only [Act.put, List.getElem_toArray, List.getElem_cons_zero, List.getElem_cons_succ, List.setIfInBounds_toArray, List.set_cons_zero, List.set_cons_succ]
            refine wpAnyH_take (i := 2) (v := ?_) rfl (by kernel_rfl) (by kernel_rfl) (by kernel_rfl) (fun _ _ _ h => h) (Or.inl ⟨by rfl, ?_⟩) (by assumption) ?_
            rotate_left 1
            · intro w _; go_simp; try with_reducible rfl
            try simp only [Act.put, List.getElem_toArray, List.getElem_cons_zero, List.getElem_cons_succ, List.setIfInBounds_toArray, List.set_cons_zero, List.set_cons_succ]
            refine wpAnyH_take (i := 3) (v := ?_) rfl (by kernel_rfl) (by kernel_rfl) (by kernel_rfl) (fun _ _ _ h => h) (Or.inl ⟨by rfl, ?_⟩) (by assumption) ?_
            rotate_left 1
            · intro w hSw; (try dsimp only at hSw); obtain ⟨-, ⟨-, y1, y2, y3, -⟩, ⟨z0, z1, z2, z3, z4, z5, z6, z7, z8⟩, hW, hR, -⟩ := hSw.out; go_simp; try with_reducible rfl
            try simp only [Act.put, List.getElem_toArray, List.getElem_cons_zero, List.getElem_cons_succ, List.setIfInBounds_toArray, List.set_cons_zero, List.set_cons_succ]
            refine wpAnyH_take (i := 4) (v := ?_) rfl (by kernel_rfl) (by kernel_rfl) (by kernel_rfl) (fun _ _ _ h => h) (Or.inl ⟨by rfl, ?_⟩) (by assumption) ?_
            rotate_left 1
            · intro w _; go_simp; try with_reducible rfl
            try simp only [Act.put, List.getElem_toArray, List.getElem_cons_zero, List.getElem_cons_succ, List.setIfInBounds_toArray, List.set_cons_zero, List.set_cons_succ]
            refine wpAnyH_take (i := 5) (v := ?_) rfl (by kernel_rfl) (by kernel_rfl) (by kernel_rfl) (fun _ _ _ h => h) (Or.inl ⟨by rfl, ?_⟩) (by assumption) ?_
            rotate_left 1
            · intro w _; go_simp; try with_reducible rfl
            try simp only [Act.put, List.getElem_toArray, List.getElem_cons_zero, List.getElem_cons_succ, List.setIfInBounds_toArray, List.set_cons_zero, List.set_cons_succ]
            refine wpAnyH_take (i := 6) (v := ?_) rfl (by kernel_rfl) (by kernel_rfl) (by kernel_rfl) (fun _ _ _ h => h) (Or.inl ⟨by rfl, ?_⟩) (by assumption) ?_
            rotate_left 1
            · intro w hSw; (try dsimp only at hSw); have hc := HC.out _ hSw.out.2.2.2.2.1; go_simp; try with_reducible rfl
            try simp only [Act.put, List.getElem_toArray, List.getElem_cons_zero, List.getElem_cons_succ, List.setIfInBounds_toArray, List.set_cons_zero, List.set_cons_succ]
            refine wpAnyH_take (i := 7) (v := ?_) rfl (by kernel_rfl) (by kernel_rfl) (by kernel_rfl) (fun _ _ _ h => h) (Or.inl ⟨by rfl, ?_⟩) (by assumption) ?_
            rotate_left 1
            · intro w _; go_simp; try with_reducible rfl
            try simp only [Act.put, List.getElem_toArray, List.getElem_cons_zero, List.getElem_cons_succ, List.setIfInBounds_toArray, List.set_cons_zero, List.set_cons_succ]
            refine wpAnyH_take (i := 8) (v := ?_) rfl (by kernel_rfl) (by kernel_rfl) (by kernel_rfl) (fun _ _ _ h => h) (Or.inl ⟨by rfl, ?_⟩) (by assumption) ?_
            rotate_left 1
            · intro w _; go_simp; try with_reducible rfl
            try simp only [Act.put, List.getElem_toArray, List.getElem_cons_zero, List.getElem_cons_succ, List.setIfInBounds_toArray, List.set_cons_zero, List.set_cons_succ]
            refine wpAnyH_take (i := 9) (v := ?_) rfl (by kernel_rfl) (by kernel_rfl) (by kernel_rfl) (fun _ _ _ h => h) (Or.inl ⟨by rfl, ?_⟩) (by assumption) ?_
            rotate_left 1
            · intro w hSw; (try dsimp only at hSw); obtain ⟨-, ⟨-, y1, y2, y3, -⟩, ⟨z0, z1, z2, z3, z4, z5, z6, z7, z8⟩, hW, hR, -⟩ := hSw.out; go_simp; try with_reducible rfl
            try simp only [Act.put, List.getElem_toArray, List.getElem_cons_zero, List.getElem_cons_succ, List.setIfInBounds_toArray, List.set_cons_zero, List.set_cons_succ]
            refine wpAnyH_ready (rs := [10]) (by kernel_rfl) (by simp) ?_
            refine AllReadyH.cons rfl (fun K hK => ?_) AllReadyH.nil
            go_simp
            refine (vins_v k p q _ _ HU.out).mono ?_
            rintro e wb ⟨rfl, hb⟩
            go_wp2_with fail
            refine hK.out _ _ (Hsx.call hb hHeld) (fun hHeld => ?_)
            clear hK K
            try simp only [Act.put, List.getElem_toArray, List.getElem_cons_zero, List.getElem_cons_succ, List.setIfInBounds_toArray, List.set_cons_zero, List.set_cons_succ]
            refine wpAnyH_take (i := 11) (v := ?_) rfl (by kernel_rfl) (by kernel_rfl) (by kernel_rfl) (fun _ _ _ h => h) (Or.inl ⟨by rfl, ?_⟩) (by assumption) ?_
            rotate_left 1
            · intro w _; go_simp; try with_reducible rfl
            try simp only [Act.put, List.getElem_toArray, List.getElem_cons_zero, List.getElem_cons_succ, List.setIfInBounds_toArray, List.set_cons_zero, List.set_cons_succ]
            refine wpAnyH_take (i := 12) (v := ?_) rfl (by kernel_rfl) (by kernel_rfl) (by kernel_rfl) (fun _ _ _ h => h) (Or.inl ⟨by rfl, ?_⟩) (by assumption) ?_
            rotate_left 1
            · intro w _; go_simp; try with_reducible rfl
            try simp only [Act.put, List.getElem_toArray, List.getElem_cons_zero, List.getElem_cons_succ, List.setIfInBounds_toArray, List.set_cons_zero, List.set_cons_succ]
            refine wpAnyH_done (by kernel_rfl) ?_ _
            have S3 : Hid (Sx w _ [fM w.heap.size x m, fW (some ad2) c X, fR (some ad) x.c m.a]) := ⟨hHeld.out.1, hHeld.out.2.2.1, hHeld.out.2.2.2.1, hHeld.out.2.2.2.2.1, trivial⟩
            clear hHeld S2
            cases u with
            | false =>
              have HN : Hid (v = false) := by rw [Hid, ← HV.out, HT.out, HAT.out]; rfl
              go_wp2_with fail
              go_ret
              exact ⟨by rw [HN.out]; rfl, S3.out.1⟩
            | true =>
              have HN : Hid (fitL m.a X = fitL (m.a.drop (j + 1)) (X.drop (j + 1))) := by
                rw [Hid, HT.out, HAT.out]; simp
              clear HT
              go_wp2_with fail
              go_roundw
              case rel => exact ⟨j + 1, by omega, by go_num, HN, S3⟩
              case measure => simp [intOf]; omega
          · skip
            have HN : Hid (v = false) := by rw [Hid, ← HV.out, HT.out, fitL_at h1a h1, show ((X[j]).1 == m.a[j]) = false by simpa using he, Bool.false_and, Bool.false_and]
            have e0 : ((X[j]).1 != m.a[j]) = true := by simpa using he
            clear he HT HU
            obtain ⟨k, hk⟩ : ∃ k, (X[j]).1 = k := ⟨_, rfl⟩
            obtain ⟨p, hp⟩ : ∃ p, (X[j]).2.1 = p := ⟨_, rfl⟩
            obtain ⟨q, hq⟩ : ∃ q, (X[j]).2.2 = q := ⟨_, rfl⟩
            obtain ⟨y, hy⟩ : ∃ y, m.a[j] = y := ⟨_, rfl⟩
            rw [hk, hp, hq] at HX
            rw [hk] at hc0
            rw [hp] at hc1
            rw [hq] at hc2
            rw [hk, hy] at e0
            rw [hy] at HC
            clear hk hp hq hy
            go_upto_region 6 with (fail)
            generalize hg : wr.heap.size = g at *
            have S2 : Hid (Sx w (wr.alloc (.cells #[.int .u8 k, .int .i64 p, .int .i64 q] 42)) [fV g k p q, fM w.heap.size x m, fW (some ad2) c X, fR (some ad) x.c m.a]) := by subst hg; exact Lib.hid (S1.out.mkV k p q)
            clear S1 hc0 hc1 hc2
            generalize wr.alloc (.cells #[.int .u8 k, .int .i64 p, .int .i64 q] 42) = w5 at S2 ⊢
            refine wp_region_held_drew (S := fun w' => Hid (Sx w w' [fV g k p q, fM w.heap.size x m, fW (some ad2) c X, fR (some ad) x.c m.a])) (by kernel_rfl) (Hsx.drew S2) (fun hHeld => ?_)
            refine wpAnyH_take (i := 0) (v := ?_) rfl (by kernel_rfl) (by kernel_rfl) (by kernel_rfl) (fun _ _ _ h => h) (Or.inl ⟨by rfl, ?_⟩) (by assumption) ?_
            rotate_left 1
            · intro w _; go_simp; try with_reducible rfl
            try simp only [Act.put, List.getElem_toArray, List.getElem_cons_zero, List.getElem_cons_succ, List.setIfInBounds_toArray, List.set_cons_zero, List.set_cons_succ]
            refine wpAnyH_take (i := 1) (v := ?_) rfl (by kernel_rfl) (by kernel_rfl) (by kernel_rfl) (fun _ _ _ h => h) (Or.inl ⟨by rfl, ?_⟩) (by assumption) ?_
            rotate_left 1
            · intro w hSw; (try dsimp only at hSw); obtain ⟨-, ⟨-, y1, y2, y3, -⟩, ⟨z0, z1, z2, z3, z4, z5, z6, z7, z8⟩, hW, hR, -⟩ := hSw.out; go_simp; try with_reducible rfl
            try simp only [Act.put, List.getElem_toArray, List.getElem_cons_zero, List.getElem_cons_succ, List.setIfInBounds_toArray, List.set_cons_zero, List.set_cons_succ]
            refine wpAnyH_take (i := 2) (v := ?_) rfl (by kernel_rfl) (by kernel_rfl) (by kernel_rfl) (fun _ _ _ h => h) (Or.inl ⟨by rfl, ?_⟩) (by assumption) ?_
            rotate_left 1
            · intro w _; go_simp; try with_reducible rfl
            try simp only [Act.put, List.getElem_toArray, List.getElem_cons_zero, List.getElem_cons_succ, List.setIfInBounds_toArray, List.set_cons_zero, List.set_cons_succ]
            refine wpAnyH_take (i := 3) (v := ?_) rfl (by kernel_rfl) (by kernel_rfl) (by kernel_rfl) (fun _ _ _ h => h) (Or.inl ⟨by rfl, ?_⟩) (by assumption) ?_
            rotate_left 1
            · intro w hSw; (try dsimp only at hSw); obtain ⟨-, ⟨-, y1, y2, y3, -⟩, ⟨z0, z1, z2, z3, z4, z5, z6, z7, z8⟩, hW, hR, -⟩ := hSw.out; go_simp; try with_reducible rfl
            try simp only [Act.put, List.getElem_toArray, List.getElem_cons_zero, List.getElem_cons_succ, List.setIfInBounds_toArray, List.set_cons_zero, List.set_cons_succ]
            refine wpAnyH_take (i := 4) (v := ?_) rfl (by kernel_rfl) (by kernel_rfl) (by kernel_rfl) (fun _ _ _ h => h) (Or.inl ⟨by rfl, ?_⟩) (by assumption) ?_
            rotate_left 1
            · intro w _; go_simp; try with_reducible rfl
            try simp only [Act.put, List.getElem_toArray, List.getElem_cons_zero, List.getElem_cons_succ, List.setIfInBounds_toArray, List.set_cons_zero, List.set_cons_succ]
            refine wpAnyH_take (i := 5) (v := ?_) rfl (by kernel_rfl) (by kernel_rfl) (by kernel_rfl) (fun _ _ _ h => h) (Or.inl ⟨by rfl, ?_⟩) (by assumption) ?_
            rotate_left 1
            · intro w _; go_simp; try with_reducible rfl
            try simp only [Act.put, List.getElem_toArray, List.getElem_cons_zero, List.getElem_cons_succ, List.setIfInBounds_toArray, List.set_cons_zero, List.set_cons_succ]
            refine wpAnyH_take (i := 6) (v := ?_) rfl (by kernel_rfl) (by kernel_rfl) (by kernel_rfl) (fun _ _ _ h => h) (Or.inl ⟨by rfl, ?_⟩) (by assumption) ?_
            rotate_left 1
            · intro w hSw; (try dsimp only at hSw); have hc := HC.out _ hSw.out.2.2.2.2.1; go_simp; try with_reducible rfl
            try simp only [Act.put, List.getElem_toArray, List.getElem_cons_zero, List.getElem_cons_succ, List.setIfInBounds_toArray, List.set_cons_zero, List.set_cons_succ]
            refine wpAnyH_take (i := 7) (v := ?_) rfl (by kernel_rfl) (by kernel_rfl) (by kernel_rfl) (fun _ _ _ h => h) (Or.inl ⟨by rfl, ?_⟩) (by assumption) ?_
            rotate_left 1
            · intro w _; go_simp; try with_reducible rfl
            try simp only [Act.put, List.getElem_toArray, List.getElem_cons_zero, List.getElem_cons_succ, List.setIfInBounds_toArray, List.set_cons_zero, List.set_cons_succ]
            refine wpAnyH_take (i := 8) (v := ?_) rfl (by kernel_rfl) (by kernel_rfl) (by kernel_rfl) (fun _ _ _ h => h) (Or.inl ⟨by rfl, ?_⟩) (by assumption) ?_
            rotate_left 1
            · intro w _; go_simp; try with_reducible rfl
            try simp only [Act.put, List.getElem_toArray, List.getElem_cons_zero, List.getElem_cons_succ, List.setIfInBounds_toArray, List.set_cons_zero, List.set_cons_succ]
            refine wpAnyH_take (i := 9) (v := undef) rfl (by kernel_rfl) (by kernel_rfl) (by kernel_rfl) (fun _ _ _ h => h) (Or.inr ⟨by rfl, rfl⟩) (by assumption) ?_
            try simp only [Act.put, List.getElem_toArray, List.getElem_cons_zero, List.getElem_cons_succ, List.setIfInBounds_toArray, List.set_cons_zero, List.set_cons_succ]
            refine wpAnyH_take (i := 10) (v := undef) rfl (by kernel_rfl) (by kernel_rfl) (by kernel_rfl) (fun _ _ _ h => h) (Or.inr ⟨by rfl, rfl⟩) (by assumption) ?_
            try simp only [Act.put, List.getElem_toArray, List.getElem_cons_zero, List.getElem_cons_succ, List.setIfInBounds_toArray, List.set_cons_zero, List.set_cons_succ]
            refine wpAnyH_take (i := 11) (v := undef) rfl (by kernel_rfl) (by kernel_rfl) (by kernel_rfl) (fun _ _ _ h => h) (Or.inr ⟨by rfl, rfl⟩) (by assumption) ?_
            try simp only [Act.put, List.getElem_toArray, List.getElem_cons_zero, List.getElem_cons_succ, List.setIfInBounds_toArray, List.set_cons_zero, List.set_cons_succ]
            refine wpAnyH_take (i := 12) (v := ?_) rfl (by kernel_rfl) (by kernel_rfl) (by kernel_rfl) (fun _ _ _ h => h) (Or.inl ⟨by rfl, ?_⟩) (by assumption) ?_
            rotate_left 1
            · intro w _; go_simp; try with_reducible rfl
            try simp only [Act.put, List.getElem_toArray, List.getElem_cons_zero, List.getElem_cons_succ, List.setIfInBounds_toArray, List.set_cons_zero, List.set_cons_succ]
            refine wpAnyH_done (by kernel_rfl) ?_ _
            have HB := Lib.hid hHeld.out.1
            clear hHeld
            go_wp2_with fail
            go_ret
            exact ⟨by rw [HN.out]; rfl, HB.out⟩
        · obtain rfl : j = X.length := by omega
          have HN : Hid (v = true) := by rw [Hid, ← HV.out, HT.out, fitL_end HL.out]
          clear HT
          go_wp2_with fail
          go_ret
          exact ⟨by rw [HN.out]; rfl, S1.out.1⟩
    · have HN : Hid (v = false) := by rw [Hid, ← HV.out]; exact fitL_len hl
      have e1 : ((X.length : Int) != (m.a.length : Int)) = true := by simp; omega
      clear hl
      go_wp2_with fail
      go_ret
      exact ⟨by rw [HN.out]; rfl, S1.out.1⟩
set_option maxHeartbeats 4000000 in
theorem r7fits_v (x : Mc) (m : Mh) (A : Option Addr) (c n : Nat) (X : List Vlu) (v : Bool) (w : World) (hx : Hd w x m) (hA : Rv w A c X) (hn : X.length = n) (hv : mF m X = v) :
    Calls Tryd.prog 16 #[mv x m, .slice A n c] w fun e w' => e = .returned (.bool v) ∧ Below w.heap.size w w' := by
  subst hn
  have hlx := hA.len
  have hla := hx.la
  have S0 := Lib.hid ((((Sx.start w).add (fH x m) hx).add (fW A c X) hA).mkM x m)
  clear hx hA 
  obtain ⟨-, ⟨z0, z1, z2, z3, z4, z5, z6, z7, z8⟩, -⟩ := S0.out
  cases hm : mM m with
  | false =>
    have HN : Hid (v = false) := by rw [Hid, ← hv, mF, hm]; rfl
    have P1 := Lib.hid (r7may_v x m _ _ S0.out.2.2.2.1 hm)
    clear hv hm
    go_enter Tryd.func16, Tryd.ntmps16
    go_wp2_with fail
    refine P1.out.mono ?_
    rintro e w1 ⟨rfl, hb1⟩
    have S1 := Lib.hid (S0.out.call hb1)
    clear hb1 P1 S0 z0 z1 z2 z3 z4 z5 z6 z7 z8
    go_wp2_with fail
    go_ret
    exact ⟨by rw [HN.out]; rfl, S1.out.1⟩
  | true =>
    have HV : Hid (fitL m.a X = v) := by rw [Hid, ← hv, mF, hm]; rfl
    have P1 := Lib.hid (r7may_v x m _ _ S0.out.2.2.2.1 hm)
    clear hv hm
    go_enter Tryd.func16, Tryd.ntmps16
    go_wp2_with fail
    refine P1.out.mono ?_
    rintro e w1 ⟨rfl, hb1⟩
    have S1 := Lib.hid (S0.out.call hb1)
    clear hb1 P1 S0 z0 z1 z2 z3 z4 z5 z6 z7 z8
    obtain ⟨-, ⟨z0, z1, z2, z3, z4, z5, z6, z7, z8⟩, -⟩ := S1.out
    by_cases hl : m.a.length = X.length
    · have HL := Lib.hid hl
      have e1 : ((X.length : Int) != (m.a.length : Int)) = false := by simp [hl]
      clear hl
      obtain ⟨XA, hXA⟩ : ∃ XA, x.A = XA := ⟨_, rfl⟩
      rw [hXA] at z1
      go_wp2_with fail
      clear z0 z1 z2 z3 z4 z5 z6 z7 z8
      have S3 : Hid (Sx w w1 [fM w.heap.size x m, fW A c X, fR XA x.c m.a]) := ⟨S1.out.1, S1.out.2.1, S1.out.2.2.1, by have := S1.out.2.2.2.1.1; rw [hXA] at this; exact this, trivial⟩
      clear S1 e1
      go_loopw [5] (fun i wr => ∃ j : Nat, j ≤ X.length ∧ i = .int .i64 j ∧ Hid (fitL m.a X = fitL (m.a.drop j) (X.drop j)) ∧ Hid (Sx w wr [fM w.heap.size x m, fW A c X, fR XA x.c m.a])) (fun i _ => X.length - (intOf i).toNat)
      case atStart => exact ⟨0, by omega, rfl, by simp [Hid], S3⟩
      case round =>
        obtain ⟨j, hj, rfl, HT, S1⟩ := hrel
        clear S3
        by_cases h1 : j < X.length
        · have h1a : j < m.a.length := by rw [HL.out]; exact h1
          obtain ⟨ad, rfl, hc⟩ := S1.out.2.2.2.1.at_ h1a
          clear hc
          obtain ⟨ad2, rfl, hc0, hc1, hc2⟩ := S1.out.2.2.1.at_ h1
          have HX : Hid (∀ w', Rv w' (some ad2) c X → w'.cell? (ad2.add (j * 3)) = some (.int .u8 (X[j]).1) ∧ w'.cell? ⟨(ad2.add (j * 3)).block, (ad2.add (j * 3)).off + 1, none⟩ = some (.int .i64 (X[j]).2.1) ∧ w'.cell? ⟨(ad2.add (j * 3)).block, (ad2.add (j * 3)).off + 2, none⟩ = some (.int .i64 (X[j]).2.2)) := by
            intro w' h
            obtain ⟨ad', e', h'⟩ := h.at_ h1
            obtain rfl := Option.some.inj e'
            exact h'
          have HC : Hid (∀ w', Rd w' (some ad) x.c m.a → w'.cell? (ad.add j) = some (.int .u8 m.a[j])) := by
            intro w' h
            obtain ⟨ad', e', h'⟩ := h.at_ h1a
            obtain rfl := Option.some.inj e'
            rw [List.getElem?_eq_getElem h1a] at h'
            simpa using h'
          obtain ⟨u, hu⟩ : ∃ u, insB (X[j]).1 (X[j]).2.1 (X[j]).2.2 = u := ⟨_, rfl⟩
          have HU := Lib.hid hu
          clear hu
          by_cases he : (X[j]).1 = m.a[j]
          · have HE : Hid (((X[j]).1 == m.a[j]) = true) := by rw [Hid]; simpa using he
            have e0 : ((X[j]).1 != m.a[j]) = false := by simpa using he
            clear he
            obtain ⟨k, hk⟩ : ∃ k, (X[j]).1 = k := ⟨_, rfl⟩
            obtain ⟨p, hp⟩ : ∃ p, (X[j]).2.1 = p := ⟨_, rfl⟩
            obtain ⟨q, hq⟩ : ∃ q, (X[j]).2.2 = q := ⟨_, rfl⟩
            obtain ⟨y, hy⟩ : ∃ y, m.a[j] = y := ⟨_, rfl⟩
            have HAT : Hid (fitL (m.a.drop j) (X.drop j) = ((true && u) && fitL (m.a.drop (j + 1)) (X.drop (j + 1)))) := by rw [Hid, fitL_at h1a h1, HE.out, HU.out]
            clear HE
            rw [hk, hp, hq] at HU HX
            rw [hk] at hc0
            rw [hp] at hc1
            rw [hq] at hc2
            rw [hk, hy] at e0
            rw [hy] at HC
            clear hk hp hq hy
            go_upto_region 6 with (fail)
            have S2 := S1
            clear S1
            refine wp_region_held_drew (S := fun w' => Hid (Sx w w' [fM w.heap.size x m, fW (some ad2) c X, fR (some ad) x.c m.a])) (by kernel_rfl) (Hsx.drew S2) (fun hHeld => ?_)
            refine wpAnyH_take (i := 0) (v := ?_) rfl (by kernel_rfl) (by kernel_rfl) (by kernel_rfl) (fun _ _ _ h => h) (Or.inl ⟨by rfl, ?_⟩) (by assumption) ?_
            rotate_left 1
            · intro w _; go_simp; try with_reducible rfl
            try simp only [Act.put, List.getElem_toArray, List.getElem_cons_zero, List.getElem_cons_succ, List.setIfInBounds_toArray, List.set_cons_zero, List.set_cons_succ]
            refine wpAnyH_take (i := 1) (v := ?_) rfl (by kernel_rfl) (by kernel_rfl) (by kernel_rfl) (fun _ _ _ h => h) (Or.inl ⟨by rfl, ?_⟩) (by assumption) ?_
            rotate_left 1
            · intro w _; go_simp; try with_reducible rfl
            try simp only [Act.put, List.getElem_toArray, List.getElem_cons_zero, List.getElem_cons_succ, List.setIfInBounds_toArray, List.set_cons_zero, List.set_cons_succ]
            refine wpAnyH_take (i := 2) (v := ?_) rfl (by kernel_rfl) (by kernel_rfl) (by kernel_rfl) (fun _ _ _ h => h) (Or.inl ⟨by rfl, ?_⟩) (by assumption) ?_
            rotate_left 1
            · intro w _; go_simp; try with_reducible rfl
            try simp only [Act.put, List.getElem_toArray, List.getElem_cons_zero, List.getElem_cons_succ, List.setIfInBounds_toArray, List.set_cons_zero, List.set_cons_succ]
            refine wpAnyH_take (i := 3) (v := ?_) rfl (by kernel_rfl) (by kernel_rfl) (by kernel_rfl) (fun _ _ _ h => h) (Or.inl ⟨by rfl, ?_⟩) (by assumption) ?_
            rotate_left 1
            · intro w _; go_simp; try with_reducible rfl
            try simp only [Act.put, List.getElem_toArray, List.getElem_cons_zero, List.getElem_cons_succ, List.setIfInBounds_toArray, List.set_cons_zero, List.set_cons_succ]
            refine wpAnyH_take (i := 4) (v := ?_) rfl (by kernel_rfl) (by kernel_rfl) (by kernel_rfl) (fun _ _ _ h => h) (Or.inl ⟨by rfl, ?_⟩) (by assumption) ?_
            rotate_left 1
            · intro w hSw; (try dsimp only at hSw); obtain ⟨hc0, hc1, hc2⟩ := HX.out _ hSw.out.2.2.1; go_simp; try with_reducible rfl
            try simp only [Act.put, List.getElem_toArray, List.getElem_cons_zero, List.getElem_cons_succ, List.setIfInBounds_toArray, List.set_cons_zero, List.set_cons_succ]
            refine wpAnyH_take (i := 5) (v := ?_) rfl (by kernel_rfl) (by kernel_rfl) (by kernel_rfl) (fun _ _ _ h => h) (Or.inl ⟨by rfl, ?_⟩) (by assumption) ?_
            rotate_left 1
            · intro w _; go_simp; try with_reducible rfl
            try simp only [Act.put, List.getElem_toArray, List.getElem_cons_zero, List.getElem_cons_succ, List.setIfInBounds_toArray, List.set_cons_zero, List.set_cons_succ]
            refine wpAnyH_take (i := 6) (v := ?_) rfl (by kernel_rfl) (by kernel_rfl) (by kernel_rfl) (fun _ _ _ h => h) (Or.inl ⟨by rfl, ?_⟩) (by assumption) ?_
            rotate_left 1
            · intro w hSw; (try dsimp only at hSw); obtain ⟨-, ⟨z0, z1, z2, z3, z4, z5, z6, z7, z8⟩, hW, hR, -⟩ := hSw.out; go_simp; try with_reducible rfl
            try simp only [Act.put, List.getElem_toArray, List.getElem_cons_zero, List.getElem_cons_succ, List.setIfInBounds_toArray, List.set_cons_zero, List.set_cons_succ]
            refine wpAnyH_take (i := 7) (v := ?_) rfl (by kernel_rfl) (by kernel_rfl) (by kernel_rfl) (fun _ _ _ h => h) (Or.inl ⟨by rfl, ?_⟩) (by assumption) ?_
            rotate_left 1
            · intro w _; go_simp; try with_reducible rfl
            try simp only [Act.put, List.getElem_toArray, List.getElem_cons_zero, List.getElem_cons_succ, List.setIfInBounds_toArray, List.set_cons_zero, List.set_cons_succ]
            refine wpAnyH_take (i := 8) (v := ?_) rfl (by kernel_rfl) (by kernel_rfl) (by kernel_rfl) (fun _ _ _ h => h) (Or.inl ⟨by rfl, ?_⟩) (by assumption) ?_
            rotate_left 1
            · intro w _; go_simp; try with_reducible rfl
            try simp only [Act.put, List.getElem_toArray, List.getElem_cons_zero, List.getElem_cons_succ, List.setIfInBounds_toArray, List.set_cons_zero, List.set_cons_succ]
            refine wpAnyH_take (i := 9) (v := ?_) rfl (by kernel_rfl) (by kernel_rfl) (by kernel_rfl) (fun _ _ _ h => h) (Or.inl ⟨by rfl, ?_⟩) (by assumption) ?_
            rotate_left 1
            · intro w hSw; (try dsimp only at hSw); have hc := HC.out _ hSw.out.2.2.2.1; go_simp; try with_reducible rfl
            try simp only [Act.put, List.getElem_toArray, List.getElem_cons_zero, List.getElem_cons_succ, List.setIfInBounds_toArray, List.set_cons_zero, List.set_cons_succ]
            refine wpAnyH_take (i := 10) (v := ?_) rfl (by kernel_rfl) (by kernel_rfl) (by kernel_rfl) (fun _ _ _ h => h) (Or.inl ⟨by rfl, ?_⟩) (by assumption) ?_
            rotate_left 1
            · intro w _; go_simp; try with_reducible rfl
            try simp only [Act.put, List.getElem_toArray, List.getElem_cons_zero, List.getElem_cons_succ, List.setIfInBounds_toArray, List.set_cons_zero, List.set_cons_succ]
            refine wpAnyH_take (i := 11) (v := ?_) rfl (by kernel_rfl) (by kernel_rfl) (by kernel_rfl) (fun _ _ _ h => h) (Or.inl ⟨by rfl, ?_⟩) (by assumption) ?_
            rotate_left 1
            · intro w _; go_simp; try with_reducible rfl
            try simp only [Act.put, List.getElem_toArray, List.getElem_cons_zero, List.getElem_cons_succ, List.setIfInBounds_toArray, List.set_cons_zero, List.set_cons_succ]
            refine wpAnyH_take (i := 12) (v := ?_) rfl (by kernel_rfl) (by kernel_rfl) (by kernel_rfl) (fun _ _ _ h => h) (Or.inl ⟨by rfl, ?_⟩) (by assumption) ?_
            rotate_left 1
            · intro w _; go_simp; try with_reducible rfl
            try simp only [Act.put, List.getElem_toArray, List.getElem_cons_zero, List.getElem_cons_succ, List.setIfInBounds_toArray, List.set_cons_zero, List.set_cons_succ]
            refine wpAnyH_take (i := 13) (v := ?_) rfl (by kernel_rfl) (by kernel_rfl) (by kernel_rfl) (fun _ _ _ h => h) (Or.inl ⟨by rfl, ?_⟩) (by assumption) ?_
            rotate_left 1
            · intro w _; go_simp; try with_reducible rfl
            try simp only [Act.put, List.getElem_toArray, List.getElem_cons_zero, List.getElem_cons_succ, List.setIfInBounds_toArray, List.set_cons_zero, List.set_cons_succ]
            refine wpAnyH_take (i := 14) (v := ?_) rfl (by kernel_rfl) (by kernel_rfl) (by kernel_rfl) (fun _ _ _ h => h) (Or.inl ⟨by rfl, ?_⟩) (by assumption) ?_
            rotate_left 1
            · intro w _; go_simp; try with_reducible rfl
            try simp only [Act.put, List.getElem_toArray, List.getElem_cons_zero, List.getElem_cons_succ, List.setIfInBounds_toArray, List.set_cons_zero, List.set_cons_succ]
            refine wpAnyH_take (i := 15) (v := ?_) rfl (by kernel_rfl) (by kernel_rfl) (by kernel_rfl) (fun _ _ _ h => h) (Or.inl ⟨by rfl, ?_⟩) (by assumption) ?_
            rotate_left 1
            · intro w hSw; (try dsimp only at hSw); obtain ⟨hc0, hc1, hc2⟩ := HX.out _ hSw.out.2.2.1; go_simp; try with_reducible rfl
            try simp only [Act.put, List.getElem_toArray, List.getElem_cons_zero, List.getElem_cons_succ, List.setIfInBounds_toArray, List.set_cons_zero, List.set_cons_succ]
            refine wpAnyH_ready (rs := [16]) (by kernel_rfl) (by simp) ?_
            refine AllReadyH.cons rfl (fun K hK => ?_) AllReadyH.nil
            go_simp
            refine (r3ins_v k p q _ _ HU.out).mono ?_
            rintro e wb ⟨rfl, hb⟩
            go_wp2_with fail
            refine hK.out _ _ (Hsx.call hb hHeld) (fun hHeld => ?_)
            clear hK K
            try simp only [Act.put, List.getElem_toArray, List.getElem_cons_zero, List.getElem_cons_succ, List.setIfInBounds_toArray, List.set_cons_zero, List.set_cons_succ]
            refine wpAnyH_take (i := 17) (v := ?_) rfl (by kernel_rfl) (by kernel_rfl) (by kernel_rfl) (fun _ _ _ h => h) (Or.inl ⟨by rfl, ?_⟩) (by assumption) ?_
            rotate_left 1
            · intro w _; go_simp; try with_reducible rfl
            try simp only [Act.put, List.getElem_toArray, List.getElem_cons_zero, List.getElem_cons_succ, List.setIfInBounds_toArray, List.set_cons_zero, List.set_cons_succ]
            refine wpAnyH_take (i := 18) (v := ?_) rfl (by kernel_rfl) (by kernel_rfl) (by kernel_rfl) (fun _ _ _ h => h) (Or.inl ⟨by rfl, ?_⟩) (by assumption) ?_
            rotate_left 1
            · intro w _; go_simp; try with_reducible rfl
            try simp only [Act.put, List.getElem_toArray, List.getElem_cons_zero, List.getElem_cons_succ, List.setIfInBounds_toArray, List.set_cons_zero, List.set_cons_succ]
            refine wpAnyH_done (by kernel_rfl) ?_ _
            have S3 : Hid (Sx w _ [fM w.heap.size x m, fW (some ad2) c X, fR (some ad) x.c m.a]) := ⟨hHeld.out.1, hHeld.out.2.1, hHeld.out.2.2.1, hHeld.out.2.2.2.1, trivial⟩
            clear hHeld S2
            cases u with
            | false =>
              have HN : Hid (v = false) := by rw [Hid, ← HV.out, HT.out, HAT.out]; rfl
              go_wp2_with fail
              go_ret
              exact ⟨by rw [HN.out]; rfl, S3.out.1⟩
            | true =>
              have HN : Hid (fitL m.a X = fitL (m.a.drop (j + 1)) (X.drop (j + 1))) := by
                rw [Hid, HT.out, HAT.out]; simp
              clear HT
              go_wp2_with fail
              go_roundw
              case rel => exact ⟨j + 1, by omega, by go_num, HN, S3⟩
              case measure => simp [intOf]; omega
          · skip
            have HN : Hid (v = false) := by rw [Hid, ← HV.out, HT.out, fitL_at h1a h1, show ((X[j]).1 == m.a[j]) = false by simpa using he, Bool.false_and, Bool.false_and]
            have e0 : ((X[j]).1 != m.a[j]) = true := by simpa using he
            clear he HT HU
            obtain ⟨k, hk⟩ : ∃ k, (X[j]).1 = k := ⟨_, rfl⟩
            obtain ⟨p, hp⟩ : ∃ p, (X[j]).2.1 = p := ⟨_, rfl⟩
            obtain ⟨q, hq⟩ : ∃ q, (X[j]).2.2 = q := ⟨_, rfl⟩
            obtain ⟨y, hy⟩ : ∃ y, m.a[j] = y := ⟨_, rfl⟩
            rw [hk, hp, hq] at HX
            rw [hk] at hc0
            rw [hp] at hc1
            rw [hq] at hc2
            rw [hk, hy] at e0
            rw [hy] at HC
            clear hk hp hq hy
            go_upto_region 6 with (fail)
            have S2 := S1
            clear S1
            refine wp_region_held_drew (S := fun w' => Hid (Sx w w' [fM w.heap.size x m, fW (some ad2) c X, fR (some ad) x.c m.a])) (by kernel_rfl) (Hsx.drew S2) (fun hHeld => ?_)
            refine wpAnyH_take (i := 0) (v := ?_) rfl (by kernel_rfl) (by kernel_rfl) (by kernel_rfl) (fun _ _ _ h => h) (Or.inl ⟨by rfl, ?_⟩) (by assumption) ?_
            rotate_left 1
            · intro w _; go_simp; try with_reducible rfl
            try simp only [Act.put, List.getElem_toArray, List.getElem_cons_zero, List.getElem_cons_succ, List.setIfInBounds_toArray, List.set_cons_zero, List.set_cons_succ]
            refine wpAnyH_take (i := 1) (v := ?_) rfl (by kernel_rfl) (by kernel_rfl) (by kernel_rfl) (fun _ _ _ h => h) (Or.inl ⟨by rfl, ?_⟩) (by assumption) ?_
            rotate_left 1
            · intro w _; go_simp; try with_reducible rfl
            try simp only [Act.put, List.getElem_toArray, List.getElem_cons_zero, List.getElem_cons_succ, List.setIfInBounds_toArray, List.set_cons_zero, List.set_cons_succ]
            refine wpAnyH_take (i := 2) (v := ?_) rfl (by kernel_rfl) (by kernel_rfl) (by kernel_rfl) (fun _ _ _ h => h) (Or.inl ⟨by rfl, ?_⟩) (by assumption) ?_
            rotate_left 1
            · intro w _; go_simp; try with_reducible rfl
            try simp only [Act.put, List.getElem_toArray, List.getElem_cons_zero, List.getElem_cons_succ, List.setIfInBounds_toArray, List.set_cons_zero, List.set_cons_succ]
            refine wpAnyH_take (i := 3) (v := ?_) rfl (by kernel_rfl) (by kernel_rfl) (by kernel_rfl) (fun _ _ _ h => h) (Or.inl ⟨by rfl, ?_⟩) (by assumption) ?_
            rotate_left 1
            · intro w _; go_simp; try with_reducible rfl
            try simp only [Act.put, List.getElem_toArray, List.getElem_cons_zero, List.getElem_cons_succ, List.setIfInBounds_toArray, List.set_cons_zero, List.set_cons_succ]
            refine wpAnyH_take (i := 4) (v := ?_) rfl (by kernel_rfl) (by kernel_rfl) (by kernel_rfl) (fun _ _ _ h => h) (Or.inl ⟨by rfl, ?_⟩) (by assumption) ?_
            rotate_left 1
            · intro w hSw; (try dsimp only at hSw); obtain ⟨hc0, hc1, hc2⟩ := HX.out _ hSw.out.2.2.1; go_simp; try with_reducible rfl
            try simp only [Act.put, List.getElem_toArray, List.getElem_cons_zero, List.getElem_cons_succ, List.setIfInBounds_toArray, List.set_cons_zero, List.set_cons_succ]
            refine wpAnyH_take (i := 5) (v := ?_) rfl (by kernel_rfl) (by kernel_rfl) (by kernel_rfl) (fun _ _ _ h => h) (Or.inl ⟨by rfl, ?_⟩) (by assumption) ?_
            rotate_left 1
            · intro w _; go_simp; try with_reducible rfl
            try simp only [Act.put, List.getElem_toArray, List.getElem_cons_zero, List.getElem_cons_succ, List.setIfInBounds_toArray, List.set_cons_zero, List.set_cons_succ]
            refine wpAnyH_take (i := 6) (v := ?_) rfl (by kernel_rfl) (by kernel_rfl) (by kernel_rfl) (fun _ _ _ h => h) (Or.inl ⟨by rfl, ?_⟩) (by assumption) ?_
            rotate_left 1
            · intro w hSw; (try dsimp only at hSw); obtain ⟨-, ⟨z0, z1, z2, z3, z4, z5, z6, z7, z8⟩, hW, hR, -⟩ := hSw.out; go_simp; try with_reducible rfl
            try simp only [Act.put, List.getElem_toArray, List.getElem_cons_zero, List.getElem_cons_succ, List.setIfInBounds_toArray, List.set_cons_zero, List.set_cons_succ]
            refine wpAnyH_take (i := 7) (v := ?_) rfl (by kernel_rfl) (by kernel_rfl) (by kernel_rfl) (fun _ _ _ h => h) (Or.inl ⟨by rfl, ?_⟩) (by assumption) ?_
            rotate_left 1
            · intro w _; go_simp; try with_reducible rfl
            try simp only [Act.put, List.getElem_toArray, List.getElem_cons_zero, List.getElem_cons_succ, List.setIfInBounds_toArray, List.set_cons_zero, List.set_cons_succ]
            refine wpAnyH_take (i := 8) (v := ?_) rfl (by kernel_rfl) (by kernel_rfl) (by kernel_rfl) (fun _ _ _ h => h) (Or.inl ⟨by rfl, ?_⟩) (by assumption) ?_
            rotate_left 1
            · intro w _; go_simp; try with_reducible rfl
            try simp only [Act.put, List.getElem_toArray, List.getElem_cons_zero, List.getElem_cons_succ, List.setIfInBounds_toArray, List.set_cons_zero, List.set_cons_succ]
            refine wpAnyH_take (i := 9) (v := ?_) rfl (by kernel_rfl) (by kernel_rfl) (by kernel_rfl) (fun _ _ _ h => h) (Or.inl ⟨by rfl, ?_⟩) (by assumption) ?_
            rotate_left 1
            · intro w hSw; (try dsimp only at hSw); have hc := HC.out _ hSw.out.2.2.2.1; go_simp; try with_reducible rfl
            try simp only [Act.put, List.getElem_toArray, List.getElem_cons_zero, List.getElem_cons_succ, List.setIfInBounds_toArray, List.set_cons_zero, List.set_cons_succ]
            refine wpAnyH_take (i := 10) (v := ?_) rfl (by kernel_rfl) (by kernel_rfl) (by kernel_rfl) (fun _ _ _ h => h) (Or.inl ⟨by rfl, ?_⟩) (by assumption) ?_
            rotate_left 1
            · intro w _; go_simp; try with_reducible rfl
            try simp only [Act.put, List.getElem_toArray, List.getElem_cons_zero, List.getElem_cons_succ, List.setIfInBounds_toArray, List.set_cons_zero, List.set_cons_succ]
            refine wpAnyH_take (i := 11) (v := ?_) rfl (by kernel_rfl) (by kernel_rfl) (by kernel_rfl) (fun _ _ _ h => h) (Or.inl ⟨by rfl, ?_⟩) (by assumption) ?_
            rotate_left 1
            · intro w _; go_simp; try with_reducible rfl
            try simp only [Act.put, List.getElem_toArray, List.getElem_cons_zero, List.getElem_cons_succ, List.setIfInBounds_toArray, List.set_cons_zero, List.set_cons_succ]
            refine wpAnyH_take (i := 12) (v := undef) rfl (by kernel_rfl) (by kernel_rfl) (by kernel_rfl) (fun _ _ _ h => h) (Or.inr ⟨by rfl, rfl⟩) (by assumption) ?_
            try simp only [Act.put, List.getElem_toArray, List.getElem_cons_zero, List.getElem_cons_succ, List.setIfInBounds_toArray, List.set_cons_zero, List.set_cons_succ]
            refine wpAnyH_take (i := 13) (v := undef) rfl (by kernel_rfl) (by kernel_rfl) (by kernel_rfl) (fun _ _ _ h => h) (Or.inr ⟨by rfl, rfl⟩) (by assumption) ?_
            try simp only [Act.put, List.getElem_toArray, List.getElem_cons_zero, List.getElem_cons_succ, List.setIfInBounds_toArray, List.set_cons_zero, List.set_cons_succ]
            refine wpAnyH_take (i := 14) (v := undef) rfl (by kernel_rfl) (by kernel_rfl) (by kernel_rfl) (fun _ _ _ h => h) (Or.inr ⟨by rfl, rfl⟩) (by assumption) ?_
            try simp only [Act.put, List.getElem_toArray, List.getElem_cons_zero, List.getElem_cons_succ, List.setIfInBounds_toArray, List.set_cons_zero, List.set_cons_succ]
            refine wpAnyH_take (i := 15) (v := undef) rfl (by kernel_rfl) (by kernel_rfl) (by kernel_rfl) (fun _ _ _ h => h) (Or.inr ⟨by rfl, rfl⟩) (by assumption) ?_
            try simp only [Act.put, List.getElem_toArray, List.getElem_cons_zero, List.getElem_cons_succ, List.setIfInBounds_toArray, List.set_cons_zero, List.set_cons_succ]
            refine wpAnyH_take (i := 16) (v := undef) rfl (by kernel_rfl) (by kernel_rfl) (by kernel_rfl) (fun _ _ _ h => h) (Or.inr ⟨by rfl, rfl⟩) (by assumption) ?_
            try simp only [Act.put, List.getElem_toArray, List.getElem_cons_zero, List.getElem_cons_succ, List.setIfInBounds_toArray, List.set_cons_zero, List.set_cons_succ]
            refine wpAnyH_take (i := 17) (v := undef) rfl (by kernel_rfl) (by kernel_rfl) (by kernel_rfl) (fun _ _ _ h => h) (Or.inr ⟨by rfl, rfl⟩) (by assumption) ?_
            try simp only [Act.put, List.getElem_toArray, List.getElem_cons_zero, List.getElem_cons_succ, List.setIfInBounds_toArray, List.set_cons_zero, List.set_cons_succ]
            refine wpAnyH_take (i := 18) (v := ?_) rfl (by kernel_rfl) (by kernel_rfl) (by kernel_rfl) (fun _ _ _ h => h) (Or.inl ⟨by rfl, ?_⟩) (by assumption) ?_
            rotate_left 1
            · intro w _; go_simp; try with_reducible rfl
            try simp only [Act.put, List.getElem_toArray, List.getElem_cons_zero, List.getElem_cons_succ, List.setIfInBounds_toArray, List.set_cons_zero, List.set_cons_succ]
            refine wpAnyH_done (by kernel_rfl) ?_ _
            have HB := Lib.hid hHeld.out.1
            clear hHeld
            go_wp2_with fail
            go_ret
            exact ⟨by rw [HN.out]; rfl, HB.out⟩
        · obtain rfl : j = X.length := by omega
          have HN : Hid (v = true) := by rw [Hid, ← HV.out, HT.out, fitL_end HL.out]
          clear HT
          go_wp2_with fail
          go_ret
          exact ⟨by rw [HN.out]; rfl, S1.out.1⟩
    · have HN : Hid (v = false) := by rw [Hid, ← HV.out]; exact fitL_len hl
      have e1 : ((X.length : Int) != (m.a.length : Int)) = true := by simp; omega
      clear hl
      go_wp2_with fail
      go_ret
      exact ⟨by rw [HN.out]; rfl, S1.out.1⟩
end Go.Proofs.YtjdalgejejllgaaDoor
