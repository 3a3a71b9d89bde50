/-
  Law FrameLast of layer 16.
-/
import Derived.Test.YtkifapnmojfjoaaUm
namespace Go.Proofs.Ytkifapnmojfjoaa
open Go.RowKit
set_option maxRecDepth 100000
set_option linter.unusedSimpArgs false
set_option linter.unusedVariables false

theorem own_mX16 {A : Option Addr} {n c j : Nat} (h : some j = (Value.slice A n c).ownBlock) : mX16 A j := by
  cases A with
  | none => simp [Value.ownBlock] at h
  | some a => exact ⟨a, rfl, by simpa [Value.ownBlock] using h.symm⟩
theorem grown16 {w0 w w9 : World} {S : Th15} {A A9 : Option Addr} {m n c c9 : Nat} {Q Q9 : List Vlu} (h : Two15 w0 w S (tW16 A m c Q)) (ho : w9.ownsRow 0 33 3 (.slice A9 n c9) n (cev Q9)) (hg : w.grownBy w9 (Value.slice A m c).ownBlock) (hb : (Value.slice A9 n c9).ownBlock = (Value.slice A m c).ownBlock ∨ (Value.slice A9 n c9).ownBlock = some w.heap.size) : Two15 w0 w9 S (tW16 A9 n c9 Q9) := by
  refine h.right (T' := tW16 A9 n c9 Q9) ho (Fr11.of_grown hg fun j hj => own_mX16 hj) ?_
  rintro j ⟨a, rfl, rfl⟩
  rcases hb with hb | hb
  · exact .inl (own_mX16 (by rw [← hb]; rfl))
  · exact .inr (by have : some a.block = some w.heap.size := hb; injection this with this; omega)
set_option maxHeartbeats 16000000 in
theorem last16_walk (C : KF16) (A0 A1 : Option Addr) (n0 n1 c0 c1 : Nat) (b : List Int) (L : List Vlu) (ev : Int) (w : World) (hb : Rd w A0 c0 b) (hl : Rv w A1 c1 L) (h0 : b.length = n0) (h1 : L.length = n1) (hev : 0 ≤ ev ∧ ev < 256) :
    Calls Try.prog 5 #[.slice A0 n0 c0, .slice A1 n1 c1, .int .u8 ev] w fun e w' => e = .returned (.bool true) ∧ Below w.heap.size w w' := by
  have HB := Lib.hid hb
  have HL := Lib.hid hl
  have H0 := Lib.hid h0
  have H1 := Lib.hid h1
  have HA := Lib.hid (awake16_any C w)
  obtain ⟨he0, he1⟩ := hev
  clear hb hl h0 h1
  by_cases g0 : 16 < n0
  · go_enter Try.func5, Try.ntmps5
    go_wp2_with fail
    refine HA.out.mono ?_
    rintro e w1 ⟨rfl, hb⟩
    go_wp2_with fail
    go_ret
    exact ⟨rfl, hb⟩
  · by_cases g1 : 400 < n1
    · go_enter Try.func5, Try.ntmps5
      go_wp2_with fail
      refine HA.out.mono ?_
      rintro e w1 ⟨rfl, hb⟩
      go_wp2_with fail
      go_ret
      exact ⟨rfl, hb⟩
    · have q0 : decide (16 < (n0 : Int)) = false := decide_eq_false (by omega)
      have q1 : decide (400 < (n1 : Int)) = false := decide_eq_false (by omega)
      go_enter Try.func5, Try.ntmps5
      go_wp2_with fail
      refine HA.out.mono ?_
      rintro e w1 ⟨rfl, hb⟩
      have HB1 := Lib.hid hb
      clear hb HA
      have N1 := Lib.hid (C.new none A0 none 0 c0 0 0 n0 0 [] b [] w1 (Rd.none_ _) (HB.out.keep HB1.out) (Rv.none_ _) rfl H0.out rfl (by omega) (by omega) (by omega))
      go_wp2_with fail
      refine N1.out.mono ?_
      rintro e w2 ⟨hb, hr⟩
      rcases hr with ⟨_, rfl⟩ | ⟨_, B, X0, rfl, hp, hx⟩
      · have HB2 := Lib.hid (HB1.out.trans (hb.mono HB1.out.size))
        clear hb N1 HB1
        go_wp2_with fail
        go_ret
        exact ⟨rfl, HB2.out⟩
      · have T2 : Hid (Two15 w w2 (tK16 C X0 B (nF16 b [])) tN15) := Lib.hid (Two15.left (S := tN15) (S' := tK16 C X0 B (nF16 b [])) ⟨HB1.out, trivial, trivial, fun _ => False.elim, fun _ => False.elim, fun _ => False.elim⟩ hp (nb15 hb) (fun j hj => .inr (hx j hj)))
        have T3 : Hid (Two15 w w2 (tK16 C X0 B (nF16 b [])) (tW16 none 0 0 [])) := Lib.hid (T2.out.right (T' := tW16 none 0 0 []) (World.ownsRow_nil _ _ _ _) (Fr11.refl _ _) (fun j hj => by obtain ⟨a, ha, _⟩ := hj; cases ha))
        have HF3 := Lib.hid (Fl16.new b)
        generalize nF16 b [] = f0 at T3 HF3
        clear hb hp hx N1 HB1 T2
        go_wp2_with fail
        go_loopw [9, 10] (fun sv iv wr => ∃ (i m c : Nat) (A : Option Addr) (X : Nat → Prop) (f : Fm) (Q : List Vlu), i ≤ n1 ∧ m ≤ i ∧ iv = .int .i64 i ∧ sv = .slice A m c ∧ Hid (Two15 w wr (tK16 C X B f) (tW16 A m c Q)) ∧ Hid (Fl16 b Q f) ∧ Hid (Q.length = m) ∧ Hid (∀ y ∈ Q, VlOk y ∧ 1 ≤ y.1 ∧ y.1 ≤ 3)) (fun _ iv _ => n1 - (intOf iv).toNat)
        case atStart => exact ⟨0, 0, 0, none, X0, f0, [], by omega, by omega, rfl, rfl, T3, HF3, Lib.hid rfl, Lib.hid (fun y hy => by cases hy)⟩
        case round =>
          clear T3 HF3
          obtain ⟨i, m, c, A, X, f, Q, hi, hm, rfl, rfl, HT, HF, HM, HQ⟩ := hrel
          rename World => wr
          by_cases h1 : i < n1
          · obtain ⟨ad, hA, -⟩ := HL.out.at_ (i := i) (by rw [H1.out]; exact h1)
            have hok := HL.out.1 _ (List.getElem_mem (h := by rw [H1.out]; exact h1) : L[i]'(by rw [H1.out]; exact h1) ∈ L)
            subst hA
            have hall : ∀ w', Below w.heap.size w w' → w'.cell? (ad.add (i * 3)) = some (.int .u8 (L[i]'(by rw [H1.out]; exact h1)).1) ∧ w'.cell? ⟨(ad.add (i * 3)).block, (ad.add (i * 3)).off + 1, none⟩ = some (.int .i64 (L[i]'(by rw [H1.out]; exact h1)).2.1) ∧ w'.cell? ⟨(ad.add (i * 3)).block, (ad.add (i * 3)).off + 2, none⟩ = some (.int .i64 (L[i]'(by rw [H1.out]; exact h1)).2.2) := fun w' hb => by
              obtain ⟨ad2, hA2, h⟩ := (HL.out.keep hb).at_ (i := i) (by rw [H1.out]; exact h1)
              injection hA2 with hA2
              subst hA2
              exact h
            generalize (L[i]'(by rw [H1.out]; exact h1)) = y at hall hok
            obtain ⟨v0, v1, v2⟩ := y
            have HV0 := Lib.hid hall
            obtain ⟨a0, a1, a2⟩ := hall wr HT.out.be
            dsimp only at a0 a1 a2
            have HOK := Lib.hid hok
            clear hok hall
            by_cases k1 : 1 ≤ v0
            · have r1 : decide (1 ≤ v0) = true := decide_eq_true k1
              by_cases k2 : v0 ≤ 3
              · have r2 : decide (v0 ≤ 3) = true := decide_eq_true k2
                by_cases k3 : (n0 : Int) + (m : Int) < 256
                · have r3 : decide ((n0 : Int) + (m : Int) < 256) = true := decide_eq_true k3
                  have hpb : pB16 f (v0, v1, v2) = true := by rw [HF.out.room H0.out HM.out]; show (decide (1 ≤ v0) && decide (v0 ≤ 3) && decide ((n0 : Int) + (m : Int) < 256)) = true; simp only [r1, r2, r3, Bool.and_self]
                  have HPB := Lib.hid hpb
                  clear hpb
                  go_upto_region 13 with (fail)
                  have G1 := Lib.hid (C.push X B f v0 v1 v2 wr HT.out.s HOK.out)
                  rw [HPB.out] at G1
                  go_wp2_with fail
                  refine G1.out.mono ?_
                  rintro e w4 ⟨rfl, hu⟩
                  obtain ⟨X1, ht, -, -⟩ := HT.out.leftU hu
                  have T4 := Lib.hid ht
                  clear hu ht G1 HT a0 a1 a2
                  obtain ⟨a0, a1, a2⟩ := HV0.out w4 T4.out.be
                  try dsimp only at a0 a1 a2
                  have HO2 : Hid ((w4.alloc (.cells #[.int .u8 v0, .int .i64 v1, .int .i64 v2] 33)).ownsRow 0 33 3 (.slice A m c) m (cev Q)) := Lib.hid (own_fr16 T4.out.t ((Fr11.refl (fun _ => False) _).alloc _) (fun _ _ => id))
                  have HR2 := Lib.hid (rv_new w4 (v0, v1, v2) HOK.out)
                  go_wp2_with (at_builtin; refine wpList_append_rvgb rfl (.tmp 80) (.tmp 85) rfl (.slice A m c) m Q rfl HO2.out ⟨w4.heap.size, 0, none⟩ 1 1 [(v0, v1, v2)] rfl HR2.out (by omega) rfl (by omega) ?_)
                  intro A9 c9 w9 ho9 hg9 hb9
                  have T5 := Lib.hid (grown16 (T4.out.keep (new1 (a := .cells #[.int .u8 v0, .int .i64 v1, .int .i64 v2] 33))) ho9 hg9 (by rw [size1]; exact hb9))
                  have HF5 := Lib.hid (HF.out.push HPB.out)
                  have HM5 : Hid ((Q ++ [(v0, v1, v2)]).length = m + 1) := Lib.hid (by rw [List.length_append, HM.out]; rfl)
                  have HQ5 : Hid (∀ y ∈ Q ++ [(v0, v1, v2)], VlOk y ∧ 1 ≤ y.1 ∧ y.1 ≤ 3) := Lib.hid (fun y hy => by
                    rcases List.mem_append.1 hy with hy | hy
                    · exact HQ.out y hy
                    · rw [List.mem_singleton.1 hy]; exact ⟨HOK.out, k1, k2⟩)
                  clear ho9 hg9 hb9 HO2 HR2 T4 a0 a1 a2
                  go_upto_region 17 with (fail)
                  by_cases hc : (i : Int) % (1 + ev) = 0
                  · skip
                    have G1 := Lib.hid (C.pop X1 B (pF16 f (v0, v1, v2)) 0 w9 T5.out.s (by omega) (by omega))
                    have HPO := Lib.hid (HF5.out.pop (k := 0) (.inl rfl))
                    rw [HPO.out.1, HPO.out.2.1] at G1
                    unfold va16 at G1
                    dsimp only at G1
                    have qe := eq_val 9998 v0 v1 v2 v0 v1 v2 true (by simp)
                    go_wp2_with fail
                    refine G1.out.mono ?_
                    rintro e w6 ⟨rfl, hu⟩
                    obtain ⟨X2, ht, -, -⟩ := T5.out.leftU hu
                    have T6 := Lib.hid ht
                    clear hu ht G1 T5
                    go_upto_region 19 with (fail)
                    have T7 := Lib.hid (T6.out.keep ((Below.refl _ w6).alloc (Nat.le_refl _) (.cells #[.int .u8 v0, .int .i64 v1, .int .i64 v2] 33)))
                    have HV7 := Lib.hid (World.alloc_heap_new w6 (.cells #[.int .u8 v0, .int .i64 v1, .int .i64 v2] 33))
                    change Code.wp _ _ _ _ (w6.alloc (.cells #[.int .u8 v0, .int .i64 v1, .int .i64 v2] 33))
                    generalize (w6.alloc (.cells #[.int .u8 v0, .int .i64 v1, .int .i64 v2] 33)) = w7 at T7 HV7 ⊢
                    generalize (w6.heap.size : Nat) = P3 at HV7 ⊢
                    clear T6
                    obtain ⟨d0, d1, d2⟩ := bx16 HV7.out
                    obtain ⟨g, hg, ⟨e0, e1, e2⟩, -⟩ := val16 (i := m) (x := (v0, v1, v2)) T7.out.t (by rw [List.getElem?_append_right (by rw [HM.out]; exact Nat.le_refl _), HM.out, Nat.sub_self]; rfl)
                    subst hg
                    dsimp only at e0 e1 e2
                    have T8 := Lib.hid (T7.out.right (T' := tW16 (some ⟨g, 0, none⟩) m c9 Q) (own_cut16 T7.out.t HM.out) (Fr11.refl _ _) (fun j hj => .inl hj))
                    have hcap : m + 1 ≤ c9 := by
                      rcases T7.out.t.2 with ⟨h1, _⟩ | ⟨ra, cap, cur, hv, _, _, h, _⟩
                      · cases h1
                      · injection hv with e1 e2 e3; omega
                    have hcut := fun wx => cut16 g c9 m (by omega) wx
                    have j5 : IntKind.i64.wrap (m : Int) = (m : Int) := IntWalk.i64_in _ (by omega)
                    have j6 : (m : Int) < (m : Int) + 1 := by omega
                    clear HV7 T7
                    refine wp_region_held_drew (S := fun w' => (w'.cell? ⟨P3, 0, none⟩ = some (.int .u8 v0) ∧ w'.cell? ⟨P3, 1, none⟩ = some (.int .i64 v1) ∧ w'.cell? ⟨P3, 2, none⟩ = some (.int .i64 v2)) ∧ (w'.cell? ⟨g, m * 3, none⟩ = some (.int .u8 v0) ∧ w'.cell? ⟨g, m * 3 + 1, none⟩ = some (.int .i64 v1) ∧ w'.cell? ⟨g, m * 3 + 2, none⟩ = some (.int .i64 v2))) (by kernel_rfl) (⟨⟨d0, d1, d2⟩, e0, e1, e2⟩) (fun hHeld => ?_)
                    refine wpAnyH_take (i := 0) (v := ?_) rfl (by kernel_rfl) (by kernel_rfl) (by kernel_rfl) (fun _ _ _ h => h) (Or.inl ⟨by rfl, ?_⟩) (by assumption) ?_
                    rotate_left 1
                    · intro w _; go_simp; try with_reducible rfl
                    try simp only [Act.put, List.getElem_toArray, List.getElem_cons_zero, List.getElem_cons_succ, List.setIfInBounds_toArray, List.set_cons_zero, List.set_cons_succ]
                    refine wpAnyH_take (i := 1) (v := ?_) rfl (by kernel_rfl) (by kernel_rfl) (by kernel_rfl) (fun _ _ _ h => h) (Or.inl ⟨by rfl, ?_⟩) (by assumption) ?_
                    rotate_left 1
                    · intro w _; go_simp; try with_reducible rfl
                    try simp only [Act.put, List.getElem_toArray, List.getElem_cons_zero, List.getElem_cons_succ, List.setIfInBounds_toArray, List.set_cons_zero, List.set_cons_succ]
                    refine wpAnyH_take (i := 2) (v := ?_) rfl (by kernel_rfl) (by kernel_rfl) (by kernel_rfl) (fun _ _ _ h => h) (Or.inl ⟨by rfl, ?_⟩) (by assumption) ?_
                    rotate_left 1
                    · intro w _; go_simp; try with_reducible rfl
                    try simp only [Act.put, List.getElem_toArray, List.getElem_cons_zero, List.getElem_cons_succ, List.setIfInBounds_toArray, List.set_cons_zero, List.set_cons_succ]
                    refine wpAnyH_take (i := 3) (v := ?_) rfl (by kernel_rfl) (by kernel_rfl) (by kernel_rfl) (fun _ _ _ h => h) (Or.inl ⟨by rfl, ?_⟩) (by assumption) ?_
                    rotate_left 1
                    · intro w hSw; (try dsimp only at hSw); obtain ⟨⟨s0, s1, s2⟩, s3, s4, s5⟩ := hSw; go_simp; try with_reducible rfl
                    try simp only [Act.put, List.getElem_toArray, List.getElem_cons_zero, List.getElem_cons_succ, List.setIfInBounds_toArray, List.set_cons_zero, List.set_cons_succ]
                    refine wpAnyH_take (i := 4) (v := ?_) rfl (by kernel_rfl) (by kernel_rfl) (by kernel_rfl) (fun _ _ _ h => h) (Or.inl ⟨by rfl, ?_⟩) (by assumption) ?_
                    rotate_left 1
                    · intro w _; go_simp; try with_reducible rfl
                    try simp only [Act.put, List.getElem_toArray, List.getElem_cons_zero, List.getElem_cons_succ, List.setIfInBounds_toArray, List.set_cons_zero, List.set_cons_succ]
                    refine wpAnyH_take (i := 5) (v := ?_) rfl (by kernel_rfl) (by kernel_rfl) (by kernel_rfl) (fun _ _ _ h => h) (Or.inl ⟨by rfl, ?_⟩) (by assumption) ?_
                    rotate_left 1
                    · intro w _; go_simp; try with_reducible rfl
                    try simp only [Act.put, List.getElem_toArray, List.getElem_cons_zero, List.getElem_cons_succ, List.setIfInBounds_toArray, List.set_cons_zero, List.set_cons_succ]
                    refine wpAnyH_take (i := 6) (v := ?_) rfl (by kernel_rfl) (by kernel_rfl) (by kernel_rfl) (fun _ _ _ h => h) (Or.inl ⟨by rfl, ?_⟩) (by assumption) ?_
                    rotate_left 1
                    · intro w _; go_simp; try with_reducible rfl
                    try simp only [Act.put, List.getElem_toArray, List.getElem_cons_zero, List.getElem_cons_succ, List.setIfInBounds_toArray, List.set_cons_zero, List.set_cons_succ]
                    refine wpAnyH_take (i := 7) (v := ?_) rfl (by kernel_rfl) (by kernel_rfl) (by kernel_rfl) (fun _ _ _ h => h) (Or.inl ⟨by rfl, ?_⟩) (by assumption) ?_
                    rotate_left 1
                    · intro w _; go_simp; try with_reducible rfl
                    try simp only [Act.put, List.getElem_toArray, List.getElem_cons_zero, List.getElem_cons_succ, List.setIfInBounds_toArray, List.set_cons_zero, List.set_cons_succ]
                    refine wpAnyH_take (i := 8) (v := ?_) rfl (by kernel_rfl) (by kernel_rfl) (by kernel_rfl) (fun _ _ _ h => h) (Or.inl ⟨by rfl, ?_⟩) (by assumption) ?_
                    rotate_left 1
                    · intro w _; go_simp; try with_reducible rfl
                    try simp only [Act.put, List.getElem_toArray, List.getElem_cons_zero, List.getElem_cons_succ, List.setIfInBounds_toArray, List.set_cons_zero, List.set_cons_succ]
                    refine wpAnyH_take (i := 9) (v := ?_) rfl (by kernel_rfl) (by kernel_rfl) (by kernel_rfl) (fun _ _ _ h => h) (Or.inl ⟨by rfl, ?_⟩) (by assumption) ?_
                    rotate_left 1
                    · intro w hSw; (try dsimp only at hSw); obtain ⟨⟨s0, s1, s2⟩, s3, s4, s5⟩ := hSw; go_simp; try with_reducible rfl
                    try simp only [Act.put, List.getElem_toArray, List.getElem_cons_zero, List.getElem_cons_succ, List.setIfInBounds_toArray, List.set_cons_zero, List.set_cons_succ]
                    refine wpAnyH_take (i := 10) (v := ?_) rfl (by kernel_rfl) (by kernel_rfl) (by kernel_rfl) (fun _ _ _ h => h) (Or.inl ⟨by rfl, ?_⟩) (by assumption) ?_
                    rotate_left 1
                    · intro w _; go_simp; try with_reducible rfl
                    try simp only [Act.put, List.getElem_toArray, List.getElem_cons_zero, List.getElem_cons_succ, List.setIfInBounds_toArray, List.set_cons_zero, List.set_cons_succ]
                    refine wpAnyH_take (i := 11) (v := ?_) rfl (by kernel_rfl) (by kernel_rfl) (by kernel_rfl) (fun _ _ _ h => h) (Or.inl ⟨by rfl, ?_⟩) (by assumption) ?_
                    rotate_left 1
                    · intro w _; go_simp; try with_reducible rfl
                    try simp only [Act.put, List.getElem_toArray, List.getElem_cons_zero, List.getElem_cons_succ, List.setIfInBounds_toArray, List.set_cons_zero, List.set_cons_succ]
                    refine wpAnyH_done (by kernel_rfl) ?_ _
                    clear hHeld

                    go_wp2_with fail
                    refine ⟨⟨i + 1, m, c9, some ⟨g, 0, none⟩, X2, _, Q, by omega, by omega, by go_num, rfl, Lib.hid (T8.out.keep (below_draws (Below.refl _ w7) 1)), Lib.hid HPO.out.2.2, HM, Lib.hid (fun y hy => HQ5.out y (List.mem_append_left _ hy))⟩, by simp [intOf]; omega⟩
                  · skip
                    go_wp2_with fail
                    go_roundw
                    case rel => exact ⟨i + 1, (m + 1), c9, A9, X1, (pF16 f (v0, v1, v2)), (Q ++ [(v0, v1, v2)]), by omega, by omega, by go_num, rfl, T5, HF5, HM5, HQ5⟩
                    case measure => simp [intOf]; omega
                · have r3 : decide ((n0 : Int) + (m : Int) < 256) = false := decide_eq_false k3
                  have hpb : pB16 f (v0, v1, v2) = false := by rw [HF.out.room H0.out HM.out]; show (decide (1 ≤ v0) && decide (v0 ≤ 3) && decide ((n0 : Int) + (m : Int) < 256)) = false; simp only [r3, Bool.and_false, Bool.false_and]
                  have HPB := Lib.hid hpb
                  clear hpb
                  go_upto_region 13 with (fail)
                  have G1 := Lib.hid (C.push X B f v0 v1 v2 wr HT.out.s HOK.out)
                  rw [HPB.out, Fl16.push_no HPB.out] at G1
                  go_wp2_with fail
                  refine G1.out.mono ?_
                  rintro e w4 ⟨rfl, hu⟩
                  obtain ⟨X1, ht, -, -⟩ := HT.out.leftU hu
                  have T4 := Lib.hid ht
                  clear hu ht G1 HT a0 a1 a2
                  go_upto_region 17 with (fail)
                  by_cases m0 : m = 0
                  · subst m0
                    go_wp2_with fail
                    go_roundw
                    case rel => exact ⟨i + 1, 0, c, A, X1, f, Q, by omega, by omega, by go_num, rfl, T4, HF, HM, HQ⟩
                    case measure => simp [intOf]; omega
                  · obtain ⟨k9, rfl⟩ : ∃ k, m = k + 1 := ⟨m - 1, by omega⟩
                    obtain ⟨R9, ⟨g0, g1, g2⟩, hQ, hr9⟩ := snoc16 HM.out
                    subst hQ
                    have HR9 := Lib.hid hr9
                    clear hr9
                    by_cases hc : (i : Int) % (1 + ev) = 0
                    · skip
                      have G1 := Lib.hid (C.pop X1 B f 0 w4 T4.out.s (by omega) (by omega))
                      have HPO := Lib.hid (HF.out.pop (k := 0) (.inl rfl))
                      rw [HPO.out.1, HPO.out.2.1] at G1
                      unfold va16 at G1
                      dsimp only at G1
                      have qe := eq_val 9998 g0 g1 g2 g0 g1 g2 true (by simp)
                      go_wp2_with fail
                      refine G1.out.mono ?_
                      rintro e w6 ⟨rfl, hu⟩
                      obtain ⟨X2, ht, -, -⟩ := T4.out.leftU hu
                      have T6 := Lib.hid ht
                      clear hu ht G1 T4
                      go_upto_region 19 with (fail)
                      have T7 := Lib.hid (T6.out.keep ((Below.refl _ w6).alloc (Nat.le_refl _) (.cells #[.int .u8 g0, .int .i64 g1, .int .i64 g2] 33)))
                      have HV7 := Lib.hid (World.alloc_heap_new w6 (.cells #[.int .u8 g0, .int .i64 g1, .int .i64 g2] 33))
                      change Code.wp _ _ _ _ (w6.alloc (.cells #[.int .u8 g0, .int .i64 g1, .int .i64 g2] 33))
                      generalize (w6.alloc (.cells #[.int .u8 g0, .int .i64 g1, .int .i64 g2] 33)) = w7 at T7 HV7 ⊢
                      generalize (w6.heap.size : Nat) = P3 at HV7 ⊢
                      clear T6
                      obtain ⟨d0, d1, d2⟩ := bx16 HV7.out
                      obtain ⟨g, hg, ⟨e0, e1, e2⟩, -⟩ := val16 (i := k9) (x := (g0, g1, g2)) T7.out.t (by rw [List.getElem?_append_right (by rw [HR9.out]; exact Nat.le_refl _), HR9.out, Nat.sub_self]; rfl)
                      subst hg
                      dsimp only at e0 e1 e2
                      have T8 := Lib.hid (T7.out.right (T' := tW16 (some ⟨g, 0, none⟩) k9 c R9) (own_cut16 T7.out.t HR9.out) (Fr11.refl _ _) (fun j hj => .inl hj))
                      have hcap : k9 + 1 ≤ c := by
                        rcases T7.out.t.2 with ⟨h1, _⟩ | ⟨ra, cap, cur, hv, _, _, h, _⟩
                        · cases h1
                        · injection hv with e1 e2 e3; omega
                      have hcut := fun wx => cut16 g c k9 (by omega) wx
                      have j5 : IntKind.i64.wrap (k9 : Int) = (k9 : Int) := IntWalk.i64_in _ (by omega)
                      have j6 : (k9 : Int) < (k9 : Int) + 1 := by omega
                      clear HV7 T7
                      refine wp_region_held_drew (S := fun w' => (w'.cell? ⟨P3, 0, none⟩ = some (.int .u8 g0) ∧ w'.cell? ⟨P3, 1, none⟩ = some (.int .i64 g1) ∧ w'.cell? ⟨P3, 2, none⟩ = some (.int .i64 g2)) ∧ (w'.cell? ⟨g, k9 * 3, none⟩ = some (.int .u8 g0) ∧ w'.cell? ⟨g, k9 * 3 + 1, none⟩ = some (.int .i64 g1) ∧ w'.cell? ⟨g, k9 * 3 + 2, none⟩ = some (.int .i64 g2))) (by kernel_rfl) (⟨⟨d0, d1, d2⟩, e0, e1, e2⟩) (fun hHeld => ?_)
                      refine wpAnyH_take (i := 0) (v := ?_) rfl (by kernel_rfl) (by kernel_rfl) (by kernel_rfl) (fun _ _ _ h => h) (Or.inl ⟨by rfl, ?_⟩) (by assumption) ?_
                      rotate_left 1
                      · intro w _; go_simp; try with_reducible rfl
                      try simp only [Act.put, List.getElem_toArray, List.getElem_cons_zero, List.getElem_cons_succ, List.setIfInBounds_toArray, List.set_cons_zero, List.set_cons_succ]
                      refine wpAnyH_take (i := 1) (v := ?_) rfl (by kernel_rfl) (by kernel_rfl) (by kernel_rfl) (fun _ _ _ h => h) (Or.inl ⟨by rfl, ?_⟩) (by assumption) ?_
                      rotate_left 1
                      · intro w _; go_simp; try with_reducible rfl
                      try simp only [Act.put, List.getElem_toArray, List.getElem_cons_zero, List.getElem_cons_succ, List.setIfInBounds_toArray, List.set_cons_zero, List.set_cons_succ]
                      refine wpAnyH_take (i := 2) (v := ?_) rfl (by kernel_rfl) (by kernel_rfl) (by kernel_rfl) (fun _ _ _ h => h) (Or.inl ⟨by rfl, ?_⟩) (by assumption) ?_
                      rotate_left 1
                      · intro w _; go_simp; try with_reducible rfl
                      try simp only [Act.put, List.getElem_toArray, List.getElem_cons_zero, List.getElem_cons_succ, List.setIfInBounds_toArray, List.set_cons_zero, List.set_cons_succ]
                      refine wpAnyH_take (i := 3) (v := ?_) rfl (by kernel_rfl) (by kernel_rfl) (by kernel_rfl) (fun _ _ _ h => h) (Or.inl ⟨by rfl, ?_⟩) (by assumption) ?_
                      rotate_left 1
                      · intro w hSw; (try dsimp only at hSw); obtain ⟨⟨s0, s1, s2⟩, s3, s4, s5⟩ := hSw; go_simp; try with_reducible rfl
                      try simp only [Act.put, List.getElem_toArray, List.getElem_cons_zero, List.getElem_cons_succ, List.setIfInBounds_toArray, List.set_cons_zero, List.set_cons_succ]
                      refine wpAnyH_take (i := 4) (v := ?_) rfl (by kernel_rfl) (by kernel_rfl) (by kernel_rfl) (fun _ _ _ h => h) (Or.inl ⟨by rfl, ?_⟩) (by assumption) ?_
                      rotate_left 1
                      · intro w _; go_simp; try with_reducible rfl
                      try simp only [Act.put, List.getElem_toArray, List.getElem_cons_zero, List.getElem_cons_succ, List.setIfInBounds_toArray, List.set_cons_zero, List.set_cons_succ]
                      refine wpAnyH_take (i := 5) (v := ?_) rfl (by kernel_rfl) (by kernel_rfl) (by kernel_rfl) (fun _ _ _ h => h) (Or.inl ⟨by rfl, ?_⟩) (by assumption) ?_
                      rotate_left 1
                      · intro w _; go_simp; try with_reducible rfl
                      try simp only [Act.put, List.getElem_toArray, List.getElem_cons_zero, List.getElem_cons_succ, List.setIfInBounds_toArray, List.set_cons_zero, List.set_cons_succ]
                      refine wpAnyH_take (i := 6) (v := ?_) rfl (by kernel_rfl) (by kernel_rfl) (by kernel_rfl) (fun _ _ _ h => h) (Or.inl ⟨by rfl, ?_⟩) (by assumption) ?_
                      rotate_left 1
                      · intro w _; go_simp; try with_reducible rfl
                      try simp only [Act.put, List.getElem_toArray, List.getElem_cons_zero, List.getElem_cons_succ, List.setIfInBounds_toArray, List.set_cons_zero, List.set_cons_succ]
                      refine wpAnyH_take (i := 7) (v := ?_) rfl (by kernel_rfl) (by kernel_rfl) (by kernel_rfl) (fun _ _ _ h => h) (Or.inl ⟨by rfl, ?_⟩) (by assumption) ?_
                      rotate_left 1
                      · intro w _; go_simp; try with_reducible rfl
                      try simp only [Act.put, List.getElem_toArray, List.getElem_cons_zero, List.getElem_cons_succ, List.setIfInBounds_toArray, List.set_cons_zero, List.set_cons_succ]
                      refine wpAnyH_take (i := 8) (v := ?_) rfl (by kernel_rfl) (by kernel_rfl) (by kernel_rfl) (fun _ _ _ h => h) (Or.inl ⟨by rfl, ?_⟩) (by assumption) ?_
                      rotate_left 1
                      · intro w _; go_simp; try with_reducible rfl
                      try simp only [Act.put, List.getElem_toArray, List.getElem_cons_zero, List.getElem_cons_succ, List.setIfInBounds_toArray, List.set_cons_zero, List.set_cons_succ]
                      refine wpAnyH_take (i := 9) (v := ?_) rfl (by kernel_rfl) (by kernel_rfl) (by kernel_rfl) (fun _ _ _ h => h) (Or.inl ⟨by rfl, ?_⟩) (by assumption) ?_
                      rotate_left 1
                      · intro w hSw; (try dsimp only at hSw); obtain ⟨⟨s0, s1, s2⟩, s3, s4, s5⟩ := hSw; go_simp; try with_reducible rfl
                      try simp only [Act.put, List.getElem_toArray, List.getElem_cons_zero, List.getElem_cons_succ, List.setIfInBounds_toArray, List.set_cons_zero, List.set_cons_succ]
                      refine wpAnyH_take (i := 10) (v := ?_) rfl (by kernel_rfl) (by kernel_rfl) (by kernel_rfl) (fun _ _ _ h => h) (Or.inl ⟨by rfl, ?_⟩) (by assumption) ?_
                      rotate_left 1
                      · intro w _; go_simp; try with_reducible rfl
                      try simp only [Act.put, List.getElem_toArray, List.getElem_cons_zero, List.getElem_cons_succ, List.setIfInBounds_toArray, List.set_cons_zero, List.set_cons_succ]
                      refine wpAnyH_take (i := 11) (v := ?_) rfl (by kernel_rfl) (by kernel_rfl) (by kernel_rfl) (fun _ _ _ h => h) (Or.inl ⟨by rfl, ?_⟩) (by assumption) ?_
                      rotate_left 1
                      · intro w _; go_simp; try with_reducible rfl
                      try simp only [Act.put, List.getElem_toArray, List.getElem_cons_zero, List.getElem_cons_succ, List.setIfInBounds_toArray, List.set_cons_zero, List.set_cons_succ]
                      refine wpAnyH_done (by kernel_rfl) ?_ _
                      clear hHeld

                      go_wp2_with fail
                      refine ⟨⟨i + 1, k9, c, some ⟨g, 0, none⟩, X2, _, R9, by omega, by omega, by go_num, rfl, Lib.hid (T8.out.keep (below_draws (Below.refl _ w7) 1)), Lib.hid HPO.out.2.2, HR9, Lib.hid (fun y hy => HQ.out y (List.mem_append_left _ hy))⟩, by simp [intOf]; omega⟩
                    · skip
                      go_wp2_with fail
                      go_roundw
                      case rel => exact ⟨i + 1, (k9 + 1), c, A, X1, f, (R9 ++ [(g0, g1, g2)]), by omega, by omega, by go_num, rfl, T4, HF, HM, HQ⟩
                      case measure => simp [intOf]; omega
              · have r2 : decide (v0 ≤ 3) = false := decide_eq_false k2
                have hpb : pB16 f (v0, v1, v2) = false := by rw [HF.out.room H0.out HM.out]; show (decide (1 ≤ v0) && decide (v0 ≤ 3) && decide ((n0 : Int) + (m : Int) < 256)) = false; simp only [r2, Bool.and_false, Bool.false_and]
                have HPB := Lib.hid hpb
                clear hpb
                go_upto_region 13 with (fail)
                have G1 := Lib.hid (C.push X B f v0 v1 v2 wr HT.out.s HOK.out)
                rw [HPB.out, Fl16.push_no HPB.out] at G1
                go_wp2_with fail
                refine G1.out.mono ?_
                rintro e w4 ⟨rfl, hu⟩
                obtain ⟨X1, ht, -, -⟩ := HT.out.leftU hu
                have T4 := Lib.hid ht
                clear hu ht G1 HT a0 a1 a2
                go_upto_region 17 with (fail)
                by_cases m0 : m = 0
                · subst m0
                  go_wp2_with fail
                  go_roundw
                  case rel => exact ⟨i + 1, 0, c, A, X1, f, Q, by omega, by omega, by go_num, rfl, T4, HF, HM, HQ⟩
                  case measure => simp [intOf]; omega
                · obtain ⟨k9, rfl⟩ : ∃ k, m = k + 1 := ⟨m - 1, by omega⟩
                  obtain ⟨R9, ⟨g0, g1, g2⟩, hQ, hr9⟩ := snoc16 HM.out
                  subst hQ
                  have HR9 := Lib.hid hr9
                  clear hr9
                  by_cases hc : (i : Int) % (1 + ev) = 0
                  · skip
                    have G1 := Lib.hid (C.pop X1 B f 0 w4 T4.out.s (by omega) (by omega))
                    have HPO := Lib.hid (HF.out.pop (k := 0) (.inl rfl))
                    rw [HPO.out.1, HPO.out.2.1] at G1
                    unfold va16 at G1
                    dsimp only at G1
                    have qe := eq_val 9998 g0 g1 g2 g0 g1 g2 true (by simp)
                    go_wp2_with fail
                    refine G1.out.mono ?_
                    rintro e w6 ⟨rfl, hu⟩
                    obtain ⟨X2, ht, -, -⟩ := T4.out.leftU hu
                    have T6 := Lib.hid ht
                    clear hu ht G1 T4
                    go_upto_region 19 with (fail)
                    have T7 := Lib.hid (T6.out.keep ((Below.refl _ w6).alloc (Nat.le_refl _) (.cells #[.int .u8 g0, .int .i64 g1, .int .i64 g2] 33)))
                    have HV7 := Lib.hid (World.alloc_heap_new w6 (.cells #[.int .u8 g0, .int .i64 g1, .int .i64 g2] 33))
                    change Code.wp _ _ _ _ (w6.alloc (.cells #[.int .u8 g0, .int .i64 g1, .int .i64 g2] 33))
                    generalize (w6.alloc (.cells #[.int .u8 g0, .int .i64 g1, .int .i64 g2] 33)) = w7 at T7 HV7 ⊢
                    generalize (w6.heap.size : Nat) = P3 at HV7 ⊢
                    clear T6
                    obtain ⟨d0, d1, d2⟩ := bx16 HV7.out
                    obtain ⟨g, hg, ⟨e0, e1, e2⟩, -⟩ := val16 (i := k9) (x := (g0, g1, g2)) T7.out.t (by rw [List.getElem?_append_right (by rw [HR9.out]; exact Nat.le_refl _), HR9.out, Nat.sub_self]; rfl)
                    subst hg
                    dsimp only at e0 e1 e2
                    have T8 := Lib.hid (T7.out.right (T' := tW16 (some ⟨g, 0, none⟩) k9 c R9) (own_cut16 T7.out.t HR9.out) (Fr11.refl _ _) (fun j hj => .inl hj))
                    have hcap : k9 + 1 ≤ c := by
                      rcases T7.out.t.2 with ⟨h1, _⟩ | ⟨ra, cap, cur, hv, _, _, h, _⟩
                      · cases h1
                      · injection hv with e1 e2 e3; omega
                    have hcut := fun wx => cut16 g c k9 (by omega) wx
                    have j5 : IntKind.i64.wrap (k9 : Int) = (k9 : Int) := IntWalk.i64_in _ (by omega)
                    have j6 : (k9 : Int) < (k9 : Int) + 1 := by omega
                    clear HV7 T7
                    refine wp_region_held_drew (S := fun w' => (w'.cell? ⟨P3, 0, none⟩ = some (.int .u8 g0) ∧ w'.cell? ⟨P3, 1, none⟩ = some (.int .i64 g1) ∧ w'.cell? ⟨P3, 2, none⟩ = some (.int .i64 g2)) ∧ (w'.cell? ⟨g, k9 * 3, none⟩ = some (.int .u8 g0) ∧ w'.cell? ⟨g, k9 * 3 + 1, none⟩ = some (.int .i64 g1) ∧ w'.cell? ⟨g, k9 * 3 + 2, none⟩ = some (.int .i64 g2))) (by kernel_rfl) (⟨⟨d0, d1, d2⟩, e0, e1, e2⟩) (fun hHeld => ?_)
                    refine wpAnyH_take (i := 0) (v := ?_) rfl (by kernel_rfl) (by kernel_rfl) (by kernel_rfl) (fun _ _ _ h => h) (Or.inl ⟨by rfl, ?_⟩) (by assumption) ?_
                    rotate_left 1
                    · intro w _; go_simp; try with_reducible rfl
                    try simp only [Act.put, List.getElem_toArray, List.getElem_cons_zero, List.getElem_cons_succ, List.setIfInBounds_toArray, List.set_cons_zero, List.set_cons_succ]
                    refine wpAnyH_take (i := 1) (v := ?_) rfl (by kernel_rfl) (by kernel_rfl) (by kernel_rfl) (fun _ _ _ h => h) (Or.inl ⟨by rfl, ?_⟩) (by assumption) ?_
                    rotate_left 1
                    · intro w _; go_simp; try with_reducible rfl
                    try simp only [Act.put, List.getElem_toArray, List.getElem_cons_zero, List.getElem_cons_succ, List.setIfInBounds_toArray, List.set_cons_zero, List.set_cons_succ]
                    refine wpAnyH_take (i := 2) (v := ?_) rfl (by kernel_rfl) (by kernel_rfl) (by kernel_rfl) (fun _ _ _ h => h) (Or.inl ⟨by rfl, ?_⟩) (by assumption) ?_
                    rotate_left 1
                    · intro w _; go_simp; try with_reducible rfl
                    try simp only [Act.put, List.getElem_toArray, List.getElem_cons_zero, List.getElem_cons_succ, List.setIfInBounds_toArray, List.set_cons_zero, List.set_cons_succ]
                    refine wpAnyH_take (i := 3) (v := ?_) rfl (by kernel_rfl) (by kernel_rfl) (by kernel_rfl) (fun _ _ _ h => h) (Or.inl ⟨by rfl, ?_⟩) (by assumption) ?_
                    rotate_left 1
                    · intro w hSw; (try dsimp only at hSw); obtain ⟨⟨s0, s1, s2⟩, s3, s4, s5⟩ := hSw; go_simp; try with_reducible rfl
                    try simp only [Act.put, List.getElem_toArray, List.getElem_cons_zero, List.getElem_cons_succ, List.setIfInBounds_toArray, List.set_cons_zero, List.set_cons_succ]
                    refine wpAnyH_take (i := 4) (v := ?_) rfl (by kernel_rfl) (by kernel_rfl) (by kernel_rfl) (fun _ _ _ h => h) (Or.inl ⟨by rfl, ?_⟩) (by assumption) ?_
                    rotate_left 1
                    · intro w _; go_simp; try with_reducible rfl
                    try simp only [Act.put, List.getElem_toArray, List.getElem_cons_zero, List.getElem_cons_succ, List.setIfInBounds_toArray, List.set_cons_zero, List.set_cons_succ]
                    refine wpAnyH_take (i := 5) (v := ?_) rfl (by kernel_rfl) (by kernel_rfl) (by kernel_rfl) (fun _ _ _ h => h) (Or.inl ⟨by rfl, ?_⟩) (by assumption) ?_
                    rotate_left 1
                    · intro w _; go_simp; try with_reducible rfl
                    try simp only [Act.put, List.getElem_toArray, List.getElem_cons_zero, List.getElem_cons_succ, List.setIfInBounds_toArray, List.set_cons_zero, List.set_cons_succ]
                    refine wpAnyH_take (i := 6) (v := ?_) rfl (by kernel_rfl) (by kernel_rfl) (by kernel_rfl) (fun _ _ _ h => h) (Or.inl ⟨by rfl, ?_⟩) (by assumption) ?_
                    rotate_left 1
                    · intro w _; go_simp; try with_reducible rfl
                    try simp only [Act.put, List.getElem_toArray, List.getElem_cons_zero, List.getElem_cons_succ, List.setIfInBounds_toArray, List.set_cons_zero, List.set_cons_succ]
                    refine wpAnyH_take (i := 7) (v := ?_) rfl (by kernel_rfl) (by kernel_rfl) (by kernel_rfl) (fun _ _ _ h => h) (Or.inl ⟨by rfl, ?_⟩) (by assumption) ?_
                    rotate_left 1
                    · intro w _; go_simp; try with_reducible rfl
                    try simp only [Act.put, List.getElem_toArray, List.getElem_cons_zero, List.getElem_cons_succ, List.setIfInBounds_toArray, List.set_cons_zero, List.set_cons_succ]
                    refine wpAnyH_take (i := 8) (v := ?_) rfl (by kernel_rfl) (by kernel_rfl) (by kernel_rfl) (fun _ _ _ h => h) (Or.inl ⟨by rfl, ?_⟩) (by assumption) ?_
                    rotate_left 1
                    · intro w _; go_simp; try with_reducible rfl
                    try simp only [Act.put, List.getElem_toArray, List.getElem_cons_zero, List.getElem_cons_succ, List.setIfInBounds_toArray, List.set_cons_zero, List.set_cons_succ]
                    refine wpAnyH_take (i := 9) (v := ?_) rfl (by kernel_rfl) (by kernel_rfl) (by kernel_rfl) (fun _ _ _ h => h) (Or.inl ⟨by rfl, ?_⟩) (by assumption) ?_
                    rotate_left 1
                    · intro w hSw; (try dsimp only at hSw); obtain ⟨⟨s0, s1, s2⟩, s3, s4, s5⟩ := hSw; go_simp; try with_reducible rfl
                    try simp only [Act.put, List.getElem_toArray, List.getElem_cons_zero, List.getElem_cons_succ, List.setIfInBounds_toArray, List.set_cons_zero, List.set_cons_succ]
                    refine wpAnyH_take (i := 10) (v := ?_) rfl (by kernel_rfl) (by kernel_rfl) (by kernel_rfl) (fun _ _ _ h => h) (Or.inl ⟨by rfl, ?_⟩) (by assumption) ?_
                    rotate_left 1
                    · intro w _; go_simp; try with_reducible rfl
                    try simp only [Act.put, List.getElem_toArray, List.getElem_cons_zero, List.getElem_cons_succ, List.setIfInBounds_toArray, List.set_cons_zero, List.set_cons_succ]
                    refine wpAnyH_take (i := 11) (v := ?_) rfl (by kernel_rfl) (by kernel_rfl) (by kernel_rfl) (fun _ _ _ h => h) (Or.inl ⟨by rfl, ?_⟩) (by assumption) ?_
                    rotate_left 1
                    · intro w _; go_simp; try with_reducible rfl
                    try simp only [Act.put, List.getElem_toArray, List.getElem_cons_zero, List.getElem_cons_succ, List.setIfInBounds_toArray, List.set_cons_zero, List.set_cons_succ]
                    refine wpAnyH_done (by kernel_rfl) ?_ _
                    clear hHeld

                    go_wp2_with fail
                    refine ⟨⟨i + 1, k9, c, some ⟨g, 0, none⟩, X2, _, R9, by omega, by omega, by go_num, rfl, Lib.hid (T8.out.keep (below_draws (Below.refl _ w7) 1)), Lib.hid HPO.out.2.2, HR9, Lib.hid (fun y hy => HQ.out y (List.mem_append_left _ hy))⟩, by simp [intOf]; omega⟩
                  · skip
                    go_wp2_with fail
                    go_roundw
                    case rel => exact ⟨i + 1, (k9 + 1), c, A, X1, f, (R9 ++ [(g0, g1, g2)]), by omega, by omega, by go_num, rfl, T4, HF, HM, HQ⟩
                    case measure => simp [intOf]; omega
            · have r1 : decide (1 ≤ v0) = false := decide_eq_false k1
              have hpb : pB16 f (v0, v1, v2) = false := by rw [HF.out.room H0.out HM.out]; show (decide (1 ≤ v0) && decide (v0 ≤ 3) && decide ((n0 : Int) + (m : Int) < 256)) = false; simp only [r1, Bool.and_false, Bool.false_and]
              have HPB := Lib.hid hpb
              clear hpb
              go_upto_region 13 with (fail)
              have G1 := Lib.hid (C.push X B f v0 v1 v2 wr HT.out.s HOK.out)
              rw [HPB.out, Fl16.push_no HPB.out] at G1
              go_wp2_with fail
              refine G1.out.mono ?_
              rintro e w4 ⟨rfl, hu⟩
              obtain ⟨X1, ht, -, -⟩ := HT.out.leftU hu
              have T4 := Lib.hid ht
              clear hu ht G1 HT a0 a1 a2
              go_upto_region 17 with (fail)
              by_cases m0 : m = 0
              · subst m0
                go_wp2_with fail
                go_roundw
                case rel => exact ⟨i + 1, 0, c, A, X1, f, Q, by omega, by omega, by go_num, rfl, T4, HF, HM, HQ⟩
                case measure => simp [intOf]; omega
              · obtain ⟨k9, rfl⟩ : ∃ k, m = k + 1 := ⟨m - 1, by omega⟩
                obtain ⟨R9, ⟨g0, g1, g2⟩, hQ, hr9⟩ := snoc16 HM.out
                subst hQ
                have HR9 := Lib.hid hr9
                clear hr9
                by_cases hc : (i : Int) % (1 + ev) = 0
                · skip
                  have G1 := Lib.hid (C.pop X1 B f 0 w4 T4.out.s (by omega) (by omega))
                  have HPO := Lib.hid (HF.out.pop (k := 0) (.inl rfl))
                  rw [HPO.out.1, HPO.out.2.1] at G1
                  unfold va16 at G1
                  dsimp only at G1
                  have qe := eq_val 9998 g0 g1 g2 g0 g1 g2 true (by simp)
                  go_wp2_with fail
                  refine G1.out.mono ?_
                  rintro e w6 ⟨rfl, hu⟩
                  obtain ⟨X2, ht, -, -⟩ := T4.out.leftU hu
                  have T6 := Lib.hid ht
                  clear hu ht G1 T4
                  go_upto_region 19 with (fail)
                  have T7 := Lib.hid (T6.out.keep ((Below.refl _ w6).alloc (Nat.le_refl _) (.cells #[.int .u8 g0, .int .i64 g1, .int .i64 g2] 33)))
                  have HV7 := Lib.hid (World.alloc_heap_new w6 (.cells #[.int .u8 g0, .int .i64 g1, .int .i64 g2] 33))
                  change Code.wp _ _ _ _ (w6.alloc (.cells #[.int .u8 g0, .int .i64 g1, .int .i64 g2] 33))
                  generalize (w6.alloc (.cells #[.int .u8 g0, .int .i64 g1, .int .i64 g2] 33)) = w7 at T7 HV7 ⊢
                  generalize (w6.heap.size : Nat) = P3 at HV7 ⊢
                  clear T6
                  obtain ⟨d0, d1, d2⟩ := bx16 HV7.out
                  obtain ⟨g, hg, ⟨e0, e1, e2⟩, -⟩ := val16 (i := k9) (x := (g0, g1, g2)) T7.out.t (by rw [List.getElem?_append_right (by rw [HR9.out]; exact Nat.le_refl _), HR9.out, Nat.sub_self]; rfl)
                  subst hg
                  dsimp only at e0 e1 e2
                  have T8 := Lib.hid (T7.out.right (T' := tW16 (some ⟨g, 0, none⟩) k9 c R9) (own_cut16 T7.out.t HR9.out) (Fr11.refl _ _) (fun j hj => .inl hj))
                  have hcap : k9 + 1 ≤ c := by
                    rcases T7.out.t.2 with ⟨h1, _⟩ | ⟨ra, cap, cur, hv, _, _, h, _⟩
                    · cases h1
                    · injection hv with e1 e2 e3; omega
                  have hcut := fun wx => cut16 g c k9 (by omega) wx
                  have j5 : IntKind.i64.wrap (k9 : Int) = (k9 : Int) := IntWalk.i64_in _ (by omega)
                  have j6 : (k9 : Int) < (k9 : Int) + 1 := by omega
                  clear HV7 T7
                  refine wp_region_held_drew (S := fun w' => (w'.cell? ⟨P3, 0, none⟩ = some (.int .u8 g0) ∧ w'.cell? ⟨P3, 1, none⟩ = some (.int .i64 g1) ∧ w'.cell? ⟨P3, 2, none⟩ = some (.int .i64 g2)) ∧ (w'.cell? ⟨g, k9 * 3, none⟩ = some (.int .u8 g0) ∧ w'.cell? ⟨g, k9 * 3 + 1, none⟩ = some (.int .i64 g1) ∧ w'.cell? ⟨g, k9 * 3 + 2, none⟩ = some (.int .i64 g2))) (by kernel_rfl) (⟨⟨d0, d1, d2⟩, e0, e1, e2⟩) (fun hHeld => ?_)
                  refine wpAnyH_take (i := 0) (v := ?_) rfl (by kernel_rfl) (by kernel_rfl) (by kernel_rfl) (fun _ _ _ h => h) (Or.inl ⟨by rfl, ?_⟩) (by assumption) ?_
                  rotate_left 1
                  · intro w _; go_simp; try with_reducible rfl
                  try simp only [Act.put, List.getElem_toArray, List.getElem_cons_zero, List.getElem_cons_succ, List.setIfInBounds_toArray, List.set_cons_zero, List.set_cons_succ]
                  refine wpAnyH_take (i := 1) (v := ?_) rfl (by kernel_rfl) (by kernel_rfl) (by kernel_rfl) (fun _ _ _ h => h) (Or.inl ⟨by rfl, ?_⟩) (by assumption) ?_
                  rotate_left 1
                  · intro w _; go_simp; try with_reducible rfl
                  try simp only [Act.put, List.getElem_toArray, List.getElem_cons_zero, List.getElem_cons_succ, List.setIfInBounds_toArray, List.set_cons_zero, List.set_cons_succ]
                  refine wpAnyH_take (i := 2) (v := ?_) rfl (by kernel_rfl) (by kernel_rfl) (by kernel_rfl) (fun _ _ _ h => h) (Or.inl ⟨by rfl, ?_⟩) (by assumption) ?_
                  rotate_left 1
                  · intro w _; go_simp; try with_reducible rfl
                  try simp only [Act.put, List.getElem_toArray, List.getElem_cons_zero, List.getElem_cons_succ, List.setIfInBounds_toArray, List.set_cons_zero, List.set_cons_succ]
                  refine wpAnyH_take (i := 3) (v := ?_) rfl (by kernel_rfl) (by kernel_rfl) (by kernel_rfl) (fun _ _ _ h => h) (Or.inl ⟨by rfl, ?_⟩) (by assumption) ?_
                  rotate_left 1
                  · intro w hSw; (try dsimp only at hSw); obtain ⟨⟨s0, s1, s2⟩, s3, s4, s5⟩ := hSw; go_simp; try with_reducible rfl
                  try simp only [Act.put, List.getElem_toArray, List.getElem_cons_zero, List.getElem_cons_succ, List.setIfInBounds_toArray, List.set_cons_zero, List.set_cons_succ]
                  refine wpAnyH_take (i := 4) (v := ?_) rfl (by kernel_rfl) (by kernel_rfl) (by kernel_rfl) (fun _ _ _ h => h) (Or.inl ⟨by rfl, ?_⟩) (by assumption) ?_
                  rotate_left 1
                  · intro w _; go_simp; try with_reducible rfl
                  try simp only [Act.put, List.getElem_toArray, List.getElem_cons_zero, List.getElem_cons_succ, List.setIfInBounds_toArray, List.set_cons_zero, List.set_cons_succ]
                  refine wpAnyH_take (i := 5) (v := ?_) rfl (by kernel_rfl) (by kernel_rfl) (by kernel_rfl) (fun _ _ _ h => h) (Or.inl ⟨by rfl, ?_⟩) (by assumption) ?_
                  rotate_left 1
                  · intro w _; go_simp; try with_reducible rfl
                  try simp only [Act.put, List.getElem_toArray, List.getElem_cons_zero, List.getElem_cons_succ, List.setIfInBounds_toArray, List.set_cons_zero, List.set_cons_succ]
                  refine wpAnyH_take (i := 6) (v := ?_) rfl (by kernel_rfl) (by kernel_rfl) (by kernel_rfl) (fun _ _ _ h => h) (Or.inl ⟨by rfl, ?_⟩) (by assumption) ?_
                  rotate_left 1
                  · intro w _; go_simp; try with_reducible rfl
                  try simp only [Act.put, List.getElem_toArray, List.getElem_cons_zero, List.getElem_cons_succ, List.setIfInBounds_toArray, List.set_cons_zero, List.set_cons_succ]
                  refine wpAnyH_take (i := 7) (v := ?_) rfl (by kernel_rfl) (by kernel_rfl) (by kernel_rfl) (fun _ _ _ h => h) (Or.inl ⟨by rfl, ?_⟩) (by assumption) ?_
                  rotate_left 1
                  · intro w _; go_simp; try with_reducible rfl
                  try simp only [Act.put, List.getElem_toArray, List.getElem_cons_zero, List.getElem_cons_succ, List.setIfInBounds_toArray, List.set_cons_zero, List.set_cons_succ]
                  refine wpAnyH_take (i := 8) (v := ?_) rfl (by kernel_rfl) (by kernel_rfl) (by kernel_rfl) (fun _ _ _ h => h) (Or.inl ⟨by rfl, ?_⟩) (by assumption) ?_
                  rotate_left 1
                  · intro w _; go_simp; try with_reducible rfl
                  try simp only [Act.put, List.getElem_toArray, List.getElem_cons_zero, List.getElem_cons_succ, List.setIfInBounds_toArray, List.set_cons_zero, List.set_cons_succ]
                  refine wpAnyH_take (i := 9) (v := ?_) rfl (by kernel_rfl) (by kernel_rfl) (by kernel_rfl) (fun _ _ _ h => h) (Or.inl ⟨by rfl, ?_⟩) (by assumption) ?_
                  rotate_left 1
                  · intro w hSw; (try dsimp only at hSw); obtain ⟨⟨s0, s1, s2⟩, s3, s4, s5⟩ := hSw; go_simp; try with_reducible rfl
                  try simp only [Act.put, List.getElem_toArray, List.getElem_cons_zero, List.getElem_cons_succ, List.setIfInBounds_toArray, List.set_cons_zero, List.set_cons_succ]
                  refine wpAnyH_take (i := 10) (v := ?_) rfl (by kernel_rfl) (by kernel_rfl) (by kernel_rfl) (fun _ _ _ h => h) (Or.inl ⟨by rfl, ?_⟩) (by assumption) ?_
                  rotate_left 1
                  · intro w _; go_simp; try with_reducible rfl
                  try simp only [Act.put, List.getElem_toArray, List.getElem_cons_zero, List.getElem_cons_succ, List.setIfInBounds_toArray, List.set_cons_zero, List.set_cons_succ]
                  refine wpAnyH_take (i := 11) (v := ?_) rfl (by kernel_rfl) (by kernel_rfl) (by kernel_rfl) (fun _ _ _ h => h) (Or.inl ⟨by rfl, ?_⟩) (by assumption) ?_
                  rotate_left 1
                  · intro w _; go_simp; try with_reducible rfl
                  try simp only [Act.put, List.getElem_toArray, List.getElem_cons_zero, List.getElem_cons_succ, List.setIfInBounds_toArray, List.set_cons_zero, List.set_cons_succ]
                  refine wpAnyH_done (by kernel_rfl) ?_ _
                  clear hHeld

                  go_wp2_with fail
                  refine ⟨⟨i + 1, k9, c, some ⟨g, 0, none⟩, X2, _, R9, by omega, by omega, by go_num, rfl, Lib.hid (T8.out.keep (below_draws (Below.refl _ w7) 1)), Lib.hid HPO.out.2.2, HR9, Lib.hid (fun y hy => HQ.out y (List.mem_append_left _ hy))⟩, by simp [intOf]; omega⟩
                · skip
                  go_wp2_with fail
                  go_roundw
                  case rel => exact ⟨i + 1, (k9 + 1), c, A, X1, f, (R9 ++ [(g0, g1, g2)]), by omega, by omega, by go_num, rfl, T4, HF, HM, HQ⟩
                  case measure => simp [intOf]; omega
          · skip
            obtain rfl : i = n1 := by omega
            clear h1
            go_wp2_with fail
            go_loopw [14] (fun kv wr => ∃ (k : Nat) (z : Int) (X : Nat → Prop) (f : Fm), k ≤ m ∧ z = (k : Int) - 1 ∧ kv = .int .i64 z ∧ Hid (Two15 w wr (tK16 C X B f) (tW16 A m c Q)) ∧ Hid (Fl16 b (Q.take k) f)) (fun kv _ => (intOf kv + 1).toNat)
            case atStart => exact ⟨m, (m : Int) - 1, X, f, Nat.le_refl _, rfl, by go_num, HT, Lib.hid (by rw [List.take_of_length_le (by rw [HM.out]; exact Nat.le_refl _)]; exact HF.out)⟩
            case round =>
              clear HT HF
              obtain ⟨k, z, X, f, hk, hz, rfl, HT, HF⟩ := hrel
              rename World => wr
              by_cases h2 : k = 0
              · subst h2
                obtain rfl : z = -1 := by omega
                rw [List.take_zero] at HF
                clear hz hk
                go_wp2_with fail
                go_loopw [21] (fun iv wr => ∃ i : Nat, i ≤ n0 ∧ iv = .int .i64 i ∧ Hid (Two15 w wr (tK16 C X B f) (tW16 A m c Q))) (fun iv _ => n0 - (intOf iv).toNat)
                case atStart => exact ⟨0, by omega, rfl, HT⟩
                case round =>
                  clear HT
                  obtain ⟨i, hi, rfl, HT⟩ := hrel
                  rename World => wr
                  by_cases h3 : i < n0
                  · obtain ⟨y, hy⟩ : ∃ y, b[i]? = some y := ⟨_, List.getElem?_eq_getElem (by rw [H0.out]; exact h3)⟩
                    have HY := Lib.hid hy
                    have G1 := Lib.hid (C.get X B f (i : Int) wr HT.out.s)
                    rw [(HF.out.get hy).1, (HF.out.get hy).2] at G1
                    unfold va16 at G1
                    dsimp only at G1
                    have qe := eq_val 9998 y 0 0 y 0 0 true (by simp)
                    clear hy
                    go_wp2_with fail
                    refine G1.out.mono ?_
                    rintro e w4 ⟨rfl, hb⟩
                    have T4 := Lib.hid (HT.out.keep hb)
                    clear hb G1 HT
                    go_upto_region 34 with (fail)
                    have T5 := Lib.hid (T4.out.keep ((Below.refl _ w4).alloc (Nat.le_refl _) (.cells #[.int .u8 y, .int .i64 0, .int .i64 0] 33)))
                    have HV5 := Lib.hid (World.alloc_heap_new w4 (.cells #[.int .u8 y, .int .i64 0, .int .i64 0] 33))
                    change Code.wp _ _ _ _ (w4.alloc (.cells #[.int .u8 y, .int .i64 0, .int .i64 0] 33))
                    generalize (w4.alloc (.cells #[.int .u8 y, .int .i64 0, .int .i64 0] 33)) = w5 at T5 HV5 ⊢
                    generalize (w4.heap.size : Nat) = P3 at HV5 ⊢
                    clear T4
                    obtain ⟨d0, d1, d2⟩ := bx16 HV5.out
                    obtain ⟨ad, hA, e0⟩ := (HB.out.keep T5.out.be).at_ (i := i) (by rw [H0.out]; exact h3)
                    rw [HY.out, Option.getD_some] at e0
                    subst hA
                    have j6 : (i : Int) < (n0 : Int) := by omega
                    clear HV5
                    refine wp_region_held_drew (S := fun w' => (w'.cell? ⟨P3, 0, none⟩ = some (.int .u8 y) ∧ w'.cell? ⟨P3, 1, none⟩ = some (.int .i64 0) ∧ w'.cell? ⟨P3, 2, none⟩ = some (.int .i64 0)) ∧ w'.cell? (ad.add i) = some (.int .u8 y)) (by kernel_rfl) (⟨⟨d0, d1, d2⟩, e0⟩) (fun hHeld => ?_)
                    refine wpAnyH_take (i := 0) (v := ?_) rfl (by kernel_rfl) (by kernel_rfl) (by kernel_rfl) (fun _ _ _ h => h) (Or.inl ⟨by rfl, ?_⟩) (by assumption) ?_
                    rotate_left 1
                    · intro w _; go_simp; try with_reducible rfl
                    try simp only [Act.put, List.getElem_toArray, List.getElem_cons_zero, List.getElem_cons_succ, List.setIfInBounds_toArray, List.set_cons_zero, List.set_cons_succ]
                    refine wpAnyH_take (i := 1) (v := ?_) rfl (by kernel_rfl) (by kernel_rfl) (by kernel_rfl) (fun _ _ _ h => h) (Or.inl ⟨by rfl, ?_⟩) (by assumption) ?_
                    rotate_left 1
                    · intro w _; go_simp; try with_reducible rfl
                    try simp only [Act.put, List.getElem_toArray, List.getElem_cons_zero, List.getElem_cons_succ, List.setIfInBounds_toArray, List.set_cons_zero, List.set_cons_succ]
                    refine wpAnyH_take (i := 2) (v := ?_) rfl (by kernel_rfl) (by kernel_rfl) (by kernel_rfl) (fun _ _ _ h => h) (Or.inl ⟨by rfl, ?_⟩) (by assumption) ?_
                    rotate_left 1
                    · intro w _; go_simp; try with_reducible rfl
                    try simp only [Act.put, List.getElem_toArray, List.getElem_cons_zero, List.getElem_cons_succ, List.setIfInBounds_toArray, List.set_cons_zero, List.set_cons_succ]
                    refine wpAnyH_take (i := 3) (v := ?_) rfl (by kernel_rfl) (by kernel_rfl) (by kernel_rfl) (fun _ _ _ h => h) (Or.inl ⟨by rfl, ?_⟩) (by assumption) ?_
                    rotate_left 1
                    · intro w hSw; (try dsimp only at hSw); obtain ⟨⟨s0, s1, s2⟩, s3⟩ := hSw; go_simp; try with_reducible rfl
                    try simp only [Act.put, List.getElem_toArray, List.getElem_cons_zero, List.getElem_cons_succ, List.setIfInBounds_toArray, List.set_cons_zero, List.set_cons_succ]
                    refine wpAnyH_take (i := 4) (v := ?_) rfl (by kernel_rfl) (by kernel_rfl) (by kernel_rfl) (fun _ _ _ h => h) (Or.inl ⟨by rfl, ?_⟩) (by assumption) ?_
                    rotate_left 1
                    · intro w _; go_simp; try with_reducible rfl
                    try simp only [Act.put, List.getElem_toArray, List.getElem_cons_zero, List.getElem_cons_succ, List.setIfInBounds_toArray, List.set_cons_zero, List.set_cons_succ]
                    refine wpAnyH_take (i := 5) (v := ?_) rfl (by kernel_rfl) (by kernel_rfl) (by kernel_rfl) (fun _ _ _ h => h) (Or.inl ⟨by rfl, ?_⟩) (by assumption) ?_
                    rotate_left 1
                    · intro w _; go_simp; try with_reducible rfl
                    try simp only [Act.put, List.getElem_toArray, List.getElem_cons_zero, List.getElem_cons_succ, List.setIfInBounds_toArray, List.set_cons_zero, List.set_cons_succ]
                    refine wpAnyH_take (i := 6) (v := ?_) rfl (by kernel_rfl) (by kernel_rfl) (by kernel_rfl) (fun _ _ _ h => h) (Or.inl ⟨by rfl, ?_⟩) (by assumption) ?_
                    rotate_left 1
                    · intro w _; go_simp; try with_reducible rfl
                    try simp only [Act.put, List.getElem_toArray, List.getElem_cons_zero, List.getElem_cons_succ, List.setIfInBounds_toArray, List.set_cons_zero, List.set_cons_succ]
                    refine wpAnyH_take (i := 7) (v := ?_) rfl (by kernel_rfl) (by kernel_rfl) (by kernel_rfl) (fun _ _ _ h => h) (Or.inl ⟨by rfl, ?_⟩) (by assumption) ?_
                    rotate_left 1
                    · intro w hSw; (try dsimp only at hSw); obtain ⟨⟨s0, s1, s2⟩, s3⟩ := hSw; go_simp; try with_reducible rfl
                    try simp only [Act.put, List.getElem_toArray, List.getElem_cons_zero, List.getElem_cons_succ, List.setIfInBounds_toArray, List.set_cons_zero, List.set_cons_succ]
                    refine wpAnyH_take (i := 8) (v := ?_) rfl (by kernel_rfl) (by kernel_rfl) (by kernel_rfl) (fun _ _ _ h => h) (Or.inl ⟨by rfl, ?_⟩) (by assumption) ?_
                    rotate_left 1
                    · intro w _; go_simp; try with_reducible rfl
                    try simp only [Act.put, List.getElem_toArray, List.getElem_cons_zero, List.getElem_cons_succ, List.setIfInBounds_toArray, List.set_cons_zero, List.set_cons_succ]
                    refine wpAnyH_take (i := 9) (v := ?_) rfl (by kernel_rfl) (by kernel_rfl) (by kernel_rfl) (fun _ _ _ h => h) (Or.inl ⟨by rfl, ?_⟩) (by assumption) ?_
                    rotate_left 1
                    · intro w _; go_simp; try with_reducible rfl
                    try simp only [Act.put, List.getElem_toArray, List.getElem_cons_zero, List.getElem_cons_succ, List.setIfInBounds_toArray, List.set_cons_zero, List.set_cons_succ]
                    refine wpAnyH_take (i := 10) (v := ?_) rfl (by kernel_rfl) (by kernel_rfl) (by kernel_rfl) (fun _ _ _ h => h) (Or.inl ⟨by rfl, ?_⟩) (by assumption) ?_
                    rotate_left 1
                    · intro w _; go_simp; try with_reducible rfl
                    try simp only [Act.put, List.getElem_toArray, List.getElem_cons_zero, List.getElem_cons_succ, List.setIfInBounds_toArray, List.set_cons_zero, List.set_cons_succ]
                    refine wpAnyH_done (by kernel_rfl) ?_ _
                    clear hHeld
                    go_wp2_with fail
                    refine ⟨⟨i + 1, by omega, by go_num, Lib.hid (T5.out.keep (below_draws (Below.refl _ w5) 1))⟩, by simp [intOf]; omega⟩
                  · obtain rfl : i = n0 := by omega
                    have G1 := Lib.hid (C.size X B f wr HT.out.s)
                    rw [HF.out.size (m := 0) H0.out (by simp)] at G1
                    go_wp2_with fail
                    refine G1.out.mono ?_
                    rintro e w4 ⟨rfl, hb⟩
                    have T4 := Lib.hid (HT.out.keep hb)
                    clear hb G1 HT
                    have G1 := Lib.hid (C.place X B f w4 T4.out.s)
                    rw [HF.out.p] at G1
                    go_wp2_with fail
                    refine G1.out.mono ?_
                    rintro e w5 ⟨rfl, hb⟩
                    have T5 := Lib.hid (T4.out.keep hb)
                    clear hb G1 T4
                    go_wp2_with fail
                    go_ret
                    exact ⟨rfl, T5.out.be⟩
              · obtain ⟨k9, rfl⟩ : ∃ j, k = j + 1 := ⟨k - 1, by omega⟩
                obtain rfl : z = (k9 : Int) := by omega
                clear h2 hz
                obtain ⟨⟨g0, g1, g2⟩, hy⟩ : ∃ y, Q[k9]? = some y := ⟨_, List.getElem?_eq_getElem (by rw [HM.out]; omega)⟩
                have HY := Lib.hid hy
                have ht9 : Q.take (k9 + 1) = Q.take k9 ++ [(g0, g1, g2)] := by rw [List.take_add_one, hy]; rfl
                rw [ht9] at HF
                obtain ⟨-, hk1, hk3⟩ := HQ.out _ (List.mem_of_getElem? hy)
                dsimp only at hk1 hk3
                obtain ⟨y1, y2, y3, y4⟩ := kind16 ⟨hk1, hk3⟩
                clear hy ht9
                have G1 := Lib.hid (C.top X B f wr HT.out.s)
                rw [HF.out.top.1, HF.out.top.2] at G1
                unfold va16 at G1
                dsimp only at G1
                have qe := eq_val 9998 g0 g1 g2 g0 g1 g2 true (by simp)
                have j6 : (k9 : Int) < (m : Int) := by omega
                go_wp2_with fail
                refine G1.out.mono ?_
                rintro e w4 ⟨rfl, hb⟩
                have T4 := Lib.hid (HT.out.keep hb)
                clear hb G1 HT
                go_upto_region 26 with (fail)
                have T5 := Lib.hid (T4.out.box #[.int .u8 g0, .int .i64 g1, .int .i64 g2] 33)
                change Code.wp _ _ _ _ (w4.alloc (.cells #[.int .u8 g0, .int .i64 g1, .int .i64 g2] 33))
                generalize (w4.alloc (.cells #[.int .u8 g0, .int .i64 g1, .int .i64 g2] 33)) = w5 at T5 ⊢
                generalize (w4.heap.size : Nat) = P15 at T5 ⊢
                clear T4
                obtain ⟨g, hg, ⟨e0, e1, e2⟩, -⟩ := val16 (i := k9) (x := (g0, g1, g2)) T5.out.t.1 HY.out
                subst hg
                dsimp only at e0 e1 e2
                have G1 := Lib.hid (C.pop X B f (g0 % 3 + 1) w5 T5.out.s y3 y4)
                have hq := HF.out.other y1 y2
                rw [hq.1, hq.2.1, hq.2.2] at G1
                unfold va16 z16 at G1
                dsimp only at G1
                clear hq
                go_wp2_with fail
                refine G1.out.mono ?_
                rintro e w6 ⟨rfl, hu⟩
                obtain ⟨X1, ht, -, -⟩ := T5.out.leftU hu
                have T6 := Lib.hid ht
                clear hu ht G1 T5 e0 e1 e2
                go_upto_region 27 with (fail)
                have T7 := Lib.hid (T6.out.box #[.int .u8 0, .int .i64 0, .int .i64 0] 33)
                change Code.wp _ _ _ _ (w6.alloc (.cells #[.int .u8 0, .int .i64 0, .int .i64 0] 33))
                generalize (w6.alloc (.cells #[.int .u8 0, .int .i64 0, .int .i64 0] 33)) = w7 at T7 ⊢
                generalize (w6.heap.size : Nat) = P17 at T7 ⊢
                clear T6
                obtain ⟨ga, hg, ⟨e0, e1, e2⟩, -⟩ := val16 (i := k9) (x := (g0, g1, g2)) T7.out.t.1.1 HY.out
                injection hg with hg
                injection hg with hg
                subst hg
                dsimp only at e0 e1 e2
                have G1 := Lib.hid (C.pop X1 B f g0 w7 T7.out.s (by omega) (by omega))
                have HPO := Lib.hid (HF.out.pop (k := g0) (.inr rfl))
                rw [HPO.out.1, HPO.out.2.1] at G1
                unfold va16 at G1
                dsimp only at G1
                go_wp2_with fail
                refine G1.out.mono ?_
                rintro e w8 ⟨rfl, hu⟩
                obtain ⟨X2, ht, -, -⟩ := T7.out.leftU hu
                have T8 := Lib.hid ht
                clear hu ht G1 T7 e0 e1 e2
                go_upto_region 28 with (fail)
                have T9 := Lib.hid (T8.out.box #[.int .u8 g0, .int .i64 g1, .int .i64 g2] 33)
                change Code.wp _ _ _ _ (w8.alloc (.cells #[.int .u8 g0, .int .i64 g1, .int .i64 g2] 33))
                generalize (w8.alloc (.cells #[.int .u8 g0, .int .i64 g1, .int .i64 g2] 33)) = w9 at T9 ⊢
                generalize (w8.heap.size : Nat) = P19 at T9 ⊢
                clear T8
                obtain ⟨d0, d1, d2⟩ := bx16 T9.out.t.2
                obtain ⟨c0, c1, c2⟩ := bx16 T9.out.t.1.1.2
                obtain ⟨ga, hg, ⟨e0, e1, e2⟩, -⟩ := val16 (i := k9) (x := (g0, g1, g2)) T9.out.t.1.1.1 HY.out
                injection hg with hg
                injection hg with hg
                subst hg
                dsimp only at e0 e1 e2
                have T10 := Lib.hid (T9.out.right (T' := tW16 (some ⟨g, 0, none⟩) m c Q) T9.out.t.1.1.1 (Fr11.refl _ _) (fun j hj => .inl (.inl (.inl (.inl hj)))))
                clear T9
                refine wp_region_held_drew (S := fun w' => (w'.cell? ⟨P19, 0, none⟩ = some (.int .u8 g0) ∧ w'.cell? ⟨P19, 1, none⟩ = some (.int .i64 g1) ∧ w'.cell? ⟨P19, 2, none⟩ = some (.int .i64 g2)) ∧ (w'.cell? ⟨P15, 0, none⟩ = some (.int .u8 g0) ∧ w'.cell? ⟨P15, 1, none⟩ = some (.int .i64 g1) ∧ w'.cell? ⟨P15, 2, none⟩ = some (.int .i64 g2)) ∧ (w'.cell? ⟨g, k9 * 3, none⟩ = some (.int .u8 g0) ∧ w'.cell? ⟨g, k9 * 3 + 1, none⟩ = some (.int .i64 g1) ∧ w'.cell? ⟨g, k9 * 3 + 2, none⟩ = some (.int .i64 g2))) (by kernel_rfl) (⟨⟨d0, d1, d2⟩, ⟨c0, c1, c2⟩, e0, e1, e2⟩) (fun hHeld => ?_)
                refine wpAnyH_take (i := 0) (v := ?_) rfl (by kernel_rfl) (by kernel_rfl) (by kernel_rfl) (fun _ _ _ h => h) (Or.inl ⟨by rfl, ?_⟩) (by assumption) ?_
                rotate_left 1
                · intro w _; go_simp; try with_reducible rfl
                try simp only [Act.put, List.getElem_toArray, List.getElem_cons_zero, List.getElem_cons_succ, List.setIfInBounds_toArray, List.set_cons_zero, List.set_cons_succ]
                refine wpAnyH_take (i := 1) (v := ?_) rfl (by kernel_rfl) (by kernel_rfl) (by kernel_rfl) (fun _ _ _ h => h) (Or.inl ⟨by rfl, ?_⟩) (by assumption) ?_
                rotate_left 1
                · intro w _; go_simp; try with_reducible rfl
                try simp only [Act.put, List.getElem_toArray, List.getElem_cons_zero, List.getElem_cons_succ, List.setIfInBounds_toArray, List.set_cons_zero, List.set_cons_succ]
                refine wpAnyH_take (i := 2) (v := ?_) rfl (by kernel_rfl) (by kernel_rfl) (by kernel_rfl) (fun _ _ _ h => h) (Or.inl ⟨by rfl, ?_⟩) (by assumption) ?_
                rotate_left 1
                · intro w _; go_simp; try with_reducible rfl
                try simp only [Act.put, List.getElem_toArray, List.getElem_cons_zero, List.getElem_cons_succ, List.setIfInBounds_toArray, List.set_cons_zero, List.set_cons_succ]
                refine wpAnyH_take (i := 3) (v := ?_) rfl (by kernel_rfl) (by kernel_rfl) (by kernel_rfl) (fun _ _ _ h => h) (Or.inl ⟨by rfl, ?_⟩) (by assumption) ?_
                rotate_left 1
                · intro w _; go_simp; try with_reducible rfl
                try simp only [Act.put, List.getElem_toArray, List.getElem_cons_zero, List.getElem_cons_succ, List.setIfInBounds_toArray, List.set_cons_zero, List.set_cons_succ]
                refine wpAnyH_take (i := 4) (v := ?_) rfl (by kernel_rfl) (by kernel_rfl) (by kernel_rfl) (fun _ _ _ h => h) (Or.inl ⟨by rfl, ?_⟩) (by assumption) ?_
                rotate_left 1
                · intro w _; go_simp; try with_reducible rfl
                try simp only [Act.put, List.getElem_toArray, List.getElem_cons_zero, List.getElem_cons_succ, List.setIfInBounds_toArray, List.set_cons_zero, List.set_cons_succ]
                refine wpAnyH_take (i := 5) (v := ?_) rfl (by kernel_rfl) (by kernel_rfl) (by kernel_rfl) (fun _ _ _ h => h) (Or.inl ⟨by rfl, ?_⟩) (by assumption) ?_
                rotate_left 1
                · intro w _; go_simp; try with_reducible rfl
                try simp only [Act.put, List.getElem_toArray, List.getElem_cons_zero, List.getElem_cons_succ, List.setIfInBounds_toArray, List.set_cons_zero, List.set_cons_succ]
                refine wpAnyH_take (i := 6) (v := ?_) rfl (by kernel_rfl) (by kernel_rfl) (by kernel_rfl) (fun _ _ _ h => h) (Or.inl ⟨by rfl, ?_⟩) (by assumption) ?_
                rotate_left 1
                · intro w _; go_simp; try with_reducible rfl
                try simp only [Act.put, List.getElem_toArray, List.getElem_cons_zero, List.getElem_cons_succ, List.setIfInBounds_toArray, List.set_cons_zero, List.set_cons_succ]
                refine wpAnyH_take (i := 7) (v := ?_) rfl (by kernel_rfl) (by kernel_rfl) (by kernel_rfl) (fun _ _ _ h => h) (Or.inl ⟨by rfl, ?_⟩) (by assumption) ?_
                rotate_left 1
                · intro w _; go_simp; try with_reducible rfl
                try simp only [Act.put, List.getElem_toArray, List.getElem_cons_zero, List.getElem_cons_succ, List.setIfInBounds_toArray, List.set_cons_zero, List.set_cons_succ]
                refine wpAnyH_take (i := 8) (v := ?_) rfl (by kernel_rfl) (by kernel_rfl) (by kernel_rfl) (fun _ _ _ h => h) (Or.inl ⟨by rfl, ?_⟩) (by assumption) ?_
                rotate_left 1
                · intro w _; go_simp; try with_reducible rfl
                try simp only [Act.put, List.getElem_toArray, List.getElem_cons_zero, List.getElem_cons_succ, List.setIfInBounds_toArray, List.set_cons_zero, List.set_cons_succ]
                refine wpAnyH_take (i := 9) (v := ?_) rfl (by kernel_rfl) (by kernel_rfl) (by kernel_rfl) (fun _ _ _ h => h) (Or.inl ⟨by rfl, ?_⟩) (by assumption) ?_
                rotate_left 1
                · intro w _; go_simp; try with_reducible rfl
                try simp only [Act.put, List.getElem_toArray, List.getElem_cons_zero, List.getElem_cons_succ, List.setIfInBounds_toArray, List.set_cons_zero, List.set_cons_succ]
                refine wpAnyH_take (i := 10) (v := ?_) rfl (by kernel_rfl) (by kernel_rfl) (by kernel_rfl) (fun _ _ _ h => h) (Or.inl ⟨by rfl, ?_⟩) (by assumption) ?_
                rotate_left 1
                · intro w hSw; (try dsimp only at hSw); obtain ⟨⟨s0, s1, s2⟩, ⟨s3, s4, s5⟩, s6, s7, s8⟩ := hSw; go_simp; try with_reducible rfl
                try simp only [Act.put, List.getElem_toArray, List.getElem_cons_zero, List.getElem_cons_succ, List.setIfInBounds_toArray, List.set_cons_zero, List.set_cons_succ]
                refine wpAnyH_take (i := 11) (v := ?_) rfl (by kernel_rfl) (by kernel_rfl) (by kernel_rfl) (fun _ _ _ h => h) (Or.inl ⟨by rfl, ?_⟩) (by assumption) ?_
                rotate_left 1
                · intro w _; go_simp; try with_reducible rfl
                try simp only [Act.put, List.getElem_toArray, List.getElem_cons_zero, List.getElem_cons_succ, List.setIfInBounds_toArray, List.set_cons_zero, List.set_cons_succ]
                refine wpAnyH_take (i := 12) (v := ?_) rfl (by kernel_rfl) (by kernel_rfl) (by kernel_rfl) (fun _ _ _ h => h) (Or.inl ⟨by rfl, ?_⟩) (by assumption) ?_
                rotate_left 1
                · intro w _; go_simp; try with_reducible rfl
                try simp only [Act.put, List.getElem_toArray, List.getElem_cons_zero, List.getElem_cons_succ, List.setIfInBounds_toArray, List.set_cons_zero, List.set_cons_succ]
                refine wpAnyH_take (i := 13) (v := ?_) rfl (by kernel_rfl) (by kernel_rfl) (by kernel_rfl) (fun _ _ _ h => h) (Or.inl ⟨by rfl, ?_⟩) (by assumption) ?_
                rotate_left 1
                · intro w _; go_simp; try with_reducible rfl
                try simp only [Act.put, List.getElem_toArray, List.getElem_cons_zero, List.getElem_cons_succ, List.setIfInBounds_toArray, List.set_cons_zero, List.set_cons_succ]
                refine wpAnyH_take (i := 14) (v := ?_) rfl (by kernel_rfl) (by kernel_rfl) (by kernel_rfl) (fun _ _ _ h => h) (Or.inl ⟨by rfl, ?_⟩) (by assumption) ?_
                rotate_left 1
                · intro w hSw; (try dsimp only at hSw); obtain ⟨⟨s0, s1, s2⟩, ⟨s3, s4, s5⟩, s6, s7, s8⟩ := hSw; go_simp; try with_reducible rfl
                try simp only [Act.put, List.getElem_toArray, List.getElem_cons_zero, List.getElem_cons_succ, List.setIfInBounds_toArray, List.set_cons_zero, List.set_cons_succ]
                refine wpAnyH_take (i := 15) (v := ?_) rfl (by kernel_rfl) (by kernel_rfl) (by kernel_rfl) (fun _ _ _ h => h) (Or.inl ⟨by rfl, ?_⟩) (by assumption) ?_
                rotate_left 1
                · intro w _; go_simp; try with_reducible rfl
                try simp only [Act.put, List.getElem_toArray, List.getElem_cons_zero, List.getElem_cons_succ, List.setIfInBounds_toArray, List.set_cons_zero, List.set_cons_succ]
                refine wpAnyH_take (i := 16) (v := ?_) rfl (by kernel_rfl) (by kernel_rfl) (by kernel_rfl) (fun _ _ _ h => h) (Or.inl ⟨by rfl, ?_⟩) (by assumption) ?_
                rotate_left 1
                · intro w _; go_simp; try with_reducible rfl
                try simp only [Act.put, List.getElem_toArray, List.getElem_cons_zero, List.getElem_cons_succ, List.setIfInBounds_toArray, List.set_cons_zero, List.set_cons_succ]
                refine wpAnyH_take (i := 17) (v := ?_) rfl (by kernel_rfl) (by kernel_rfl) (by kernel_rfl) (fun _ _ _ h => h) (Or.inl ⟨by rfl, ?_⟩) (by assumption) ?_
                rotate_left 1
                · intro w _; go_simp; try with_reducible rfl
                try simp only [Act.put, List.getElem_toArray, List.getElem_cons_zero, List.getElem_cons_succ, List.setIfInBounds_toArray, List.set_cons_zero, List.set_cons_succ]
                refine wpAnyH_take (i := 18) (v := ?_) rfl (by kernel_rfl) (by kernel_rfl) (by kernel_rfl) (fun _ _ _ h => h) (Or.inl ⟨by rfl, ?_⟩) (by assumption) ?_
                rotate_left 1
                · intro w hSw; (try dsimp only at hSw); obtain ⟨⟨s0, s1, s2⟩, ⟨s3, s4, s5⟩, s6, s7, s8⟩ := hSw; go_simp; try with_reducible rfl
                try simp only [Act.put, List.getElem_toArray, List.getElem_cons_zero, List.getElem_cons_succ, List.setIfInBounds_toArray, List.set_cons_zero, List.set_cons_succ]
                refine wpAnyH_take (i := 19) (v := ?_) rfl (by kernel_rfl) (by kernel_rfl) (by kernel_rfl) (fun _ _ _ h => h) (Or.inl ⟨by rfl, ?_⟩) (by assumption) ?_
                rotate_left 1
                · intro w hSw; (try dsimp only at hSw); obtain ⟨⟨s0, s1, s2⟩, ⟨s3, s4, s5⟩, s6, s7, s8⟩ := hSw; go_simp; try with_reducible rfl
                try simp only [Act.put, List.getElem_toArray, List.getElem_cons_zero, List.getElem_cons_succ, List.setIfInBounds_toArray, List.set_cons_zero, List.set_cons_succ]
                refine wpAnyH_take (i := 20) (v := ?_) rfl (by kernel_rfl) (by kernel_rfl) (by kernel_rfl) (fun _ _ _ h => h) (Or.inl ⟨by rfl, ?_⟩) (by assumption) ?_
                rotate_left 1
                · intro w _; go_simp; try with_reducible rfl
                try simp only [Act.put, List.getElem_toArray, List.getElem_cons_zero, List.getElem_cons_succ, List.setIfInBounds_toArray, List.set_cons_zero, List.set_cons_succ]
                refine wpAnyH_take (i := 21) (v := ?_) rfl (by kernel_rfl) (by kernel_rfl) (by kernel_rfl) (fun _ _ _ h => h) (Or.inl ⟨by rfl, ?_⟩) (by assumption) ?_
                rotate_left 1
                · intro w _; go_simp; try with_reducible rfl
                try simp only [Act.put, List.getElem_toArray, List.getElem_cons_zero, List.getElem_cons_succ, List.setIfInBounds_toArray, List.set_cons_zero, List.set_cons_succ]
                refine wpAnyH_done (by kernel_rfl) ?_ _
                clear hHeld
                go_wp2_with fail
                refine ⟨⟨k9, (k9 : Int) - 1, X2, _, by omega, rfl, by go_num, Lib.hid (T10.out.keep (below_draws (Below.refl _ w9) 1)), Lib.hid HPO.out.2.2⟩, by simp [intOf]⟩
end Go.Proofs.Ytkifapnmojfjoaa
