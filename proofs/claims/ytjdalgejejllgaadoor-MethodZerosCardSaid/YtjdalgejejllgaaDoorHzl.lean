/-
  The walk of MethodZeros: for every head and all values it returns true; nothing that was there has changed.
-/
import Derived.Test.YtjdalgejejllgaaDoorHfit
import Derived.Test.YtjdalgejejllgaaDoorHkin
import Derived.Test.YtjdalgejejllgaaDoorHe
namespace Go.Proofs.YtjdalgejejllgaaDoor
open Go.RowKit
set_option maxRecDepth 100000
set_option linter.unusedSimpArgs false
set_option linter.unusedVariables false

theorem Rv.drop {w : World} {A : Option Addr} {c : Nat} {L : List Vlu} (h : Rv w A c L) (a : Nat) (h1 : a ≤ L.length) : Rv w (if c = a then A else A.map (·.add (a * 3))) (c - a) (L.drop a) := by
  have hc := h.le
  refine ⟨fun x hx => h.1 x (List.mem_of_mem_drop hx), by simp; omega, Nat.le_trans (Nat.sub_le _ _) h.2.2.1, ?_⟩
  rcases h.2.2.2 with ⟨rfl, rfl⟩ | ⟨ad, rfl, hx⟩
  · exact .inl ⟨by simp, by simp⟩
  · by_cases e : c = a
    · rw [if_pos e]
      refine .inr ⟨ad, rfl, fun i x hi' => ?_⟩
      have := (List.getElem?_eq_some_iff.1 hi').1
      simp at this
      omega
    · rw [if_neg e]
      refine .inr ⟨ad.add (a * 3), rfl, fun i x hi' => ?_⟩
      rw [add_add, ← Nat.add_mul]
      exact hx _ x (by rw [← hi', List.getElem?_drop])
theorem fitL_zeros {K : List Int} (h : kO K = true) : fitL K (K.map fun k => (k, 0, 0)) = true := by
  induction K with
  | nil => rfl
  | cons k K ih =>
    have h1 : (1 ≤ k ∧ k ≤ 3) ∧ kO K = true := by simpa [kO] using h
    rw [List.map_cons, fitL, ih h1.2, insB_0]
    have : k = 1 ∨ k = 2 ∨ k = 3 := by omega
    rcases this with rfl | rfl | rfl <;> rfl
theorem fitL_kinds {K : List Int} {X : List Vlu} (h : fitL K X = true) : X.map (·.1) = K := by
  induction K generalizing X with
  | nil => cases X with
    | nil => rfl
    | cons x X => cases h
  | cons k K ih => cases X with
    | nil => cases h
    | cons x X =>
      rw [fitL, Bool.and_eq_true, Bool.and_eq_true] at h
      rw [List.map_cons, ih h.2]
      rw [show x.1 = k from by simpa using h.1.1]
theorem zs_ok {l : List Int} (h : Byt l) : ∀ x ∈ l.map (fun k => ((k, 0, 0) : Vlu)), VlOk x := by
  intro x hx
  obtain ⟨k, hk, rfl⟩ := List.mem_map.1 hx
  exact ⟨h k hk, by simp, by simp⟩
theorem kinds_at {K : List Int} {X : List Vlu} (h : X.map (·.1) = K) {j : Nat} (h1 : j < X.length) (h2 : j < K.length) : (X[j]).1 = K[j] := by
  subst h
  simp
set_option maxHeartbeats 8000000 in
theorem mzl_walk (x : Mc) (m : Mh) (A : Option Addr) (c n : Nat) (X : List Vlu) (w : World) (hx : Hd w x m) (hA : Rv w A c X) (hn : X.length = n) (hw : GM w) :
    Calls Tryd.prog 6 #[mv x m, .slice A n c] w fun e w' => e = .returned (.bool true) ∧ Below w.heap.size w w' := by
  obtain ⟨XA, xc, XB, xd, XD, xk, xe⟩ := x
  have hlx := hA.len
  rw [hn] at hlx
  obtain ⟨v, hv⟩ : ∃ v, mF m X = v := ⟨_, rfl⟩
  have HV := Lib.hid hv
  have HNX := Lib.hid hn
  have HBA := Lib.hid hx.1.byt
  have HBL := Lib.hid hx.2.1.byt
  have HBAL : Hid (Byt (m.a ++ m.l)) := fun y hy => by
    rcases List.mem_append.1 hy with hy | hy
    · exact HBA.out y hy
    · exact HBL.out y hy
  obtain ⟨i0, hi, hz0, hz1, hz2⟩ := info_parts Tryd.info5
  have S0 := Lib.hid (((((Sx.start w).add fGM hw).add (fH ⟨XA, xc, XB, xd, XD, xk, xe⟩ m) hx).add (fW A c X) hA).mkM ⟨XA, xc, XB, xd, XD, xk, xe⟩ m)
  clear hx hA hw hv hn
  go_enter Tryd.func6, Tryd.ntmps6
  go_wp2_with fail
  refine (awake7_any _ S0.out.2.2.2.2.1).mono ?_
  rintro r1 w1 ⟨rfl, hb1⟩
  have S1 := Lib.hid (S0.out.call hb1)
  clear hb1 S0
  obtain ⟨-, ⟨x0, x1, x2, x3, x4, x5, x6, x7, x8⟩, -⟩ := S1.out
  dsimp only at x1 x2 x8
  go_wp2_with fail
  refine (great_v ⟨XA, xc, XB, xd, XD, xk, xe⟩ m _ S1.out.2.2.2.1).mono ?_
  rintro r1 w2 ⟨rfl, hb2⟩
  have S2 := Lib.hid (S1.out.call hb2)
  clear hb2 S1
  clear x0 x1 x2 x3 x4 x5 x6 x7 x8
  cases g1 : gB m with
  | true =>
    go_wp2_with fail
    go_ret
    exact ⟨rfl, S2.out.1⟩
  | false =>
    have hgl := gB_no g1
    by_cases hX : 100 < n
    · go_wp2_with fail
      go_ret
      exact ⟨rfl, S2.out.1⟩
    · clear g1
      cases hm : mM m with
      | false =>
        have HMF : Hid (mF m X = false) := by rw [Hid, mF, hm]; rfl
        have HMG : Hid (mG m = false) := by rw [Hid, mG, hm]; rfl
        have P1 := Lib.hid (mzeros_f ⟨XA, xc, XB, xd, XD, xk, xe⟩ m _ S2.out.2.2.2.1 S2.out.2.2.2.2.1 hm)
        have P2 := fun w1 h1 h2 => Lib.hid (mmay_v ⟨XA, xc, XB, xd, XD, xk, xe⟩ m false w1 h1 h2 hm)
        clear hm
        obtain ⟨-, ⟨x0, x1, x2, x3, x4, x5, x6, x7, x8⟩, -⟩ := S2.out
        dsimp only at x1 x2 x8
        go_wp2_with fail
        refine P1.out.mono ?_
        rintro r1 w3 ⟨rfl, hb3⟩
        have S3 := Lib.hid (S2.out.call hb3)
        clear hb3 S2 P1
        clear x0 x1 x2 x3 x4 x5 x6 x7 x8
        obtain ⟨-, ⟨x0, x1, x2, x3, x4, x5, x6, x7, x8⟩, -⟩ := S3.out
        dsimp only at x1 x2 x8
        go_wp2_with fail
        refine (P2 _ S3.out.2.2.2.1 S3.out.2.2.2.2.1).out.mono ?_
        rintro r1 w4 ⟨rfl, hb4⟩
        have S4 := Lib.hid (S3.out.call hb4)
        clear hb4 S3 P2
        clear x0 x1 x2 x3 x4 x5 x6 x7 x8
        obtain ⟨-, ⟨x0, x1, x2, x3, x4, x5, x6, x7, x8⟩, -⟩ := S4.out
        dsimp only at x1 x2 x8
        go_wp2_with fail
        refine (mfits_v ⟨XA, xc, XB, xd, XD, xk, xe⟩ m A c n X false _ S4.out.2.2.2.1 S4.out.2.2.2.2.1 S4.out.2.2.1 HNX.out HMF.out).mono ?_
        rintro r1 w5 ⟨rfl, hb5⟩
        have S5 := Lib.hid (S4.out.call hb5)
        clear hb5 S4
        clear x0 x1 x2 x3 x4 x5 x6 x7 x8
        obtain ⟨-, ⟨x0, x1, x2, x3, x4, x5, x6, x7, x8⟩, -⟩ := S5.out
        dsimp only at x1 x2 x8
        go_wp2_with fail
        refine (mmig_v ⟨XA, xc, XB, xd, XD, xk, xe⟩ m false _ S5.out.2.2.2.1 S5.out.2.2.2.2.1 HMG.out).mono ?_
        rintro r1 w6 ⟨rfl, hb6⟩
        have S6 := Lib.hid (S5.out.call hb6)
        clear hb6 S5
        clear x0 x1 x2 x3 x4 x5 x6 x7 x8
        go_wp2_with fail
        go_ret
        exact ⟨rfl, S6.out.1⟩
      | true =>
        have hmm := mM_iff.1 hm
        obtain ⟨na, hna⟩ : ∃ na, m.a.length = na := ⟨_, rfl⟩
        obtain ⟨M, hM⟩ : ∃ M, m.l.length = M := ⟨_, rfl⟩
        have HNA := Lib.hid hna
        have HM := Lib.hid hM
        have h16 : na + M ≤ 16 := by omega
        have hn4 : na ≤ 4 := by omega
        have P1 := Lib.hid (mzeros_t ⟨XA, xc, XB, xd, XD, xk, xe⟩ m M hM _ S2.out.2.2.2.1 S2.out.2.2.2.2.1 hm)
        have P2 := fun w1 h1 h2 => Lib.hid (mmay_v ⟨XA, xc, XB, xd, XD, xk, xe⟩ m true w1 h1 h2 hm)
        have HV1 : Hid (v = true → X.map (·.1) = m.a ∧ X.length = m.a.length) := by
          intro hv
          have h := HV.out
          rw [hv, mF, hm, Bool.true_and] at h
          have h' := fitL_kinds h
          exact ⟨h', by rw [← h', List.length_map]⟩
        obtain ⟨X0, hX0⟩ : ∃ X0 : List Vlu, m.a.map (fun k => (k, 0, 0)) = X0 := ⟨_, rfl⟩
        have HX0 : Hid (m.a.map (fun k => ((k, 0, 0) : Vlu)) = X0 ∧ X0.length = na ∧ X0.map (·.1) = m.a) := by
          refine ⟨hX0, by rw [← hX0, List.length_map, hna], ?_⟩
          rw [← hX0, List.map_map]
          exact List.map_id _
        have HOK0 : Hid (∀ x ∈ X0, VlOk x) := by rw [Hid, ← hX0]; exact zs_ok HBA.out
        have KF1 := fun A6 c6 w1 h1 h2 h3 => Lib.hid (mfits_v ⟨XA, xc, XB, xd, XD, xk, xe⟩ m A6 c6 na X0 true w1 h1 h2 h3 HX0.out.2.1 (by rw [mF, hm, ← hX0, fitL_zeros hmm.2.2.1]; rfl))
        have KF2 := fun A6 c6 w1 h1 h2 h3 (h0 : 0 < na) => Lib.hid (mfits_v ⟨XA, xc, XB, xd, XD, xk, xe⟩ m A6 c6 (na - 1) (X0.drop 1) false w1 h1 h2 h3 (by rw [List.length_drop, HX0.out.2.1]) (by rw [mF, fitL_len (by rw [List.length_drop, HX0.out.2.1, hna]; omega), Bool.and_false]))
        clear hm hmm hna hM hX0 hgl
        obtain ⟨-, ⟨x0, x1, x2, x3, x4, x5, x6, x7, x8⟩, -⟩ := S2.out
        dsimp only at x1 x2 x8
        go_wp2_with fail
        refine P1.out.mono ?_
        rintro r1 w3 ⟨A5, c5, rfl, ho3, hb3⟩
        have S3 := Lib.hid ((S2.out.call hb3).add (fW A5 c5 (m.l.map fun k => (k, 0, 0))) (Rv.of_own ho3 (zs_ok HBL.out)).1)
        clear ho3 hb3 S2 P1
        clear x0 x1 x2 x3 x4 x5 x6 x7 x8
        obtain ⟨-, -, ⟨x0, x1, x2, x3, x4, x5, x6, x7, x8⟩, -⟩ := S3.out
        dsimp only at x1 x2 x8
        go_wp2_with fail
        refine (P2 _ S3.out.2.2.2.2.1 S3.out.2.2.2.2.2.1).out.mono ?_
        rintro r1 w4 ⟨rfl, hb4⟩
        have S4 := Lib.hid (S3.out.call hb4)
        clear hb4 S3 P2
        clear x0 x1 x2 x3 x4 x5 x6 x7 x8
        go_wp2_with fail
        generalize hB4 : w4.heap.size = B4 at *
        go_loopw [7, 8] (fun zs i wr => ∃ (j : Nat) (A' : Option Addr) (c' : Nat), j ≤ na ∧ i = .int .i64 j ∧ zs = .slice A' j c' ∧ Hid (wr.ownsRow B4 42 3 (.slice A' j c') j (cev (X0.take j))) ∧ Hid (Below B4 w4 wr)) (fun _ i _ => na - (intOf i).toNat)
        case atStart => exact ⟨0, none, 0, by omega, rfl, rfl, Lib.hid (World.ownsRow_nil _ _ _ _), Lib.hid (Below.refl _ _)⟩
        case round =>
          obtain ⟨j, A6, c6, hj, rfl, rfl, HO, HB⟩ := hrel
          have hsz := HB.out.size
          have S5 : Hid (Sx w wr [fW A5 c5 (m.l.map fun k => (k, 0, 0)), fM w.heap.size ⟨XA, xc, XB, xd, XD, xk, xe⟩ m, fW A c X, fH ⟨XA, xc, XB, xd, XD, xk, xe⟩ m, fGM]) := Lib.hid (S4.out.call (by rw [hB4]; exact HB.out))
          obtain ⟨-, -, ⟨x0, x1, x2, x3, x4, x5, x6, x7, x8⟩, -⟩ := S5.out
          dsimp only at x1 x2 x8
          rw [HNA.out] at x1
          by_cases h1 : j < na
          · have h1a : j < m.a.length := by rw [HNA.out]; exact h1
            have hR : Rd wr XA xc m.a := S5.out.2.2.2.2.1.1
            obtain ⟨ad, rfl, hc⟩ := hR.at_ h1a
            rw [List.getElem?_eq_getElem h1a] at hc
            simp only [Option.getD_some] at hc
            have HT : Hid (X0.take (j + 1) = X0.take j ++ [(m.a[j], 0, 0)]) := by
              rw [Hid, ← HX0.out.1, List.take_add_one, List.getElem?_map, List.getElem?_eq_getElem h1a]
              rfl
            have hkb := HBA.out _ (List.getElem_mem h1a)
            clear hR
            generalize m.a[j] = k at *
            have HO1 := Lib.hid (own_below (B := B4) HO.out (new1 (a := .cells #[.int .u8 k, .int .i64 0, .int .i64 0] 42)) (Nat.le_refl _))
            have HR1 := Lib.hid (rv_new wr (k, 0, 0) ⟨hkb, by simp, by simp⟩)
            have HB1 : Hid (Below B4 w4 (wr.alloc (.cells #[.int .u8 k, .int .i64 0, .int .i64 0] 42))) := HB.out.alloc (by omega) _
            clear HO HB
            go_wp2_with (at_builtin; refine wpList_append_rv _ rfl _ _ rfl B4 _ j (X0.take j) rfl HO1.out _ 1 1 [(k, 0, 0)] rfl HR1.out rfl (by omega) (by have := HB1.out.size; omega) ?_)
            intro A7 c7 w5 ho hb
            have HO2 := Lib.hid ho
            have HB2 := Lib.hid (HB1.out.trans hb)
            clear ho hb HO1 HR1 HB1
            clear x0 x1 x2 x3 x4 x5 x6 x7 x8
            go_wp2_with fail
            go_roundw
            case rel => exact ⟨j + 1, A7, c7, by omega, by go_num, rfl, by rw [HT.out]; exact HO2, HB2⟩
            case measure => simp [intOf]; omega
          · have hjn : j = na := by omega
            subst j
            have HRV := Lib.hid (Rv.of_own (by have := HO.out; rwa [List.take_of_length_le (by rw [HX0.out.2.1]; omega)] at this) HOK0.out).1
            have S8 : Hid (Sx w wr [fW A6 c6 X0, fW A5 c5 (m.l.map fun k => (k, 0, 0)), fM w.heap.size ⟨XA, xc, XB, xd, XD, xk, xe⟩ m, fW A c X, fH ⟨XA, xc, XB, xd, XD, xk, xe⟩ m, fGM]) := Lib.hid (S5.out.add (fW A6 c6 X0) HRV.out)
            have hc6 := HRV.out.le
            have hc7 := HRV.out.2.2.1
            rw [HX0.out.2.1] at hc6
            clear HO HB S4 S5 HRV
            go_upto_region 15 with (fail)
            clear x0 x1 x2 x3 x4 x5 x6 x7 x8
            by_cases hp : 0 < na
            · obtain ⟨A9, hA9⟩ : ∃ A9, (if c6 = 1 then A6 else Option.map (fun x => (⟨x.block, x.off + 3, none⟩ : Addr)) A6) = A9 := ⟨_, rfl⟩
              have HRS : Hid (∀ w1, Rv w1 A6 c6 X0 → Rv w1 A9 (c6 - 1) (X0.drop 1)) := fun w1 h => by
                have := h.drop 1 (by rw [HX0.out.2.1]; omega)
                rw [← hA9]
                simpa [Addr.add] using this
              have HDA := Lib.hid hA9
              clear hA9
              have hp1 : (1 : Int) ≤ na := by omega
              refine wp_region_held_drew (S := fun w' => Hid (Sx w w' [fW A6 c6 X0, fW A5 c5 (m.l.map fun k => (k, 0, 0)), fM w.heap.size ⟨XA, xc, XB, xd, XD, xk, xe⟩ m, fW A c X, fH ⟨XA, xc, XB, xd, XD, xk, xe⟩ m, fGM])) (by kernel_rfl) (Hsx.drew S8) (fun hHeld => ?_)
              refine wpAnyH_take (i := 0) (v := ?_) rfl (by kernel_rfl) (by kernel_rfl) (by kernel_rfl) (fun _ _ _ h => h) (Or.inl ⟨by rfl, ?_⟩) (by assumption) ?_
              rotate_left 1
              · intro w hSw; (try dsimp only at hSw); obtain ⟨-, -, -, ⟨x0, x1, x2, x3, x4, x5, x6, x7, x8⟩, -⟩ := hSw.out; dsimp only at x1 x2 x8; go_simp; try with_reducible rfl
              try simp only [Act.put, List.getElem_toArray, List.getElem_cons_zero, List.getElem_cons_succ, List.setIfInBounds_toArray, List.set_cons_zero, List.set_cons_succ]
              refine wpAnyH_take (i := 1) (v := ?_) rfl (by kernel_rfl) (by kernel_rfl) (by kernel_rfl) (fun _ _ _ h => h) (Or.inl ⟨by rfl, ?_⟩) (by assumption) ?_
              rotate_left 1
              · intro w _; go_simp; try with_reducible rfl
              try simp only [Act.put, List.getElem_toArray, List.getElem_cons_zero, List.getElem_cons_succ, List.setIfInBounds_toArray, List.set_cons_zero, List.set_cons_succ]
              refine wpAnyH_ready (rs := [2]) (by kernel_rfl) (by simp) ?_
              refine AllReadyH.cons rfl (fun K hK => ?_) AllReadyH.nil
              go_simp
              refine (KF1 _ _ _ hHeld.out.2.2.2.2.2.1 hHeld.out.2.2.2.2.2.2.1 hHeld.out.2.1).out.mono ?_
              rintro r1 wb ⟨rfl, hb⟩
              go_wp2_with fail
              refine hK.out _ _ (Hsx.call hb hHeld) (fun hHeld => ?_)
              clear hK K
              try simp only [Act.put, List.getElem_toArray, List.getElem_cons_zero, List.getElem_cons_succ, List.setIfInBounds_toArray, List.set_cons_zero, List.set_cons_succ]
              refine wpAnyH_take (i := 3) (v := ?_) rfl (by kernel_rfl) (by kernel_rfl) (by kernel_rfl) (fun _ _ _ h => h) (Or.inl ⟨by rfl, ?_⟩) (by assumption) ?_
              rotate_left 1
              · intro w _; go_simp; try with_reducible rfl
              try simp only [Act.put, List.getElem_toArray, List.getElem_cons_zero, List.getElem_cons_succ, List.setIfInBounds_toArray, List.set_cons_zero, List.set_cons_succ]
              refine wpAnyH_take (i := 4) (v := ?_) rfl (by kernel_rfl) (by kernel_rfl) (by kernel_rfl) (fun _ _ _ h => h) (Or.inl ⟨by rfl, ?_⟩) (by assumption) ?_
              rotate_left 1
              · intro w _; go_simp; try with_reducible rfl
              try simp only [Act.put, List.getElem_toArray, List.getElem_cons_zero, List.getElem_cons_succ, List.setIfInBounds_toArray, List.set_cons_zero, List.set_cons_succ]
              refine wpAnyH_take (i := 5) (v := ?_) rfl (by kernel_rfl) (by kernel_rfl) (by kernel_rfl) (fun _ _ _ h => h) (Or.inl ⟨by rfl, ?_⟩) (by assumption) ?_
              rotate_left 1
              · intro w _; go_simp; try with_reducible rfl
              try simp only [Act.put, List.getElem_toArray, List.getElem_cons_zero, List.getElem_cons_succ, List.setIfInBounds_toArray, List.set_cons_zero, List.set_cons_succ]
              refine wpAnyH_take (i := 6) (v := ?_) rfl (by kernel_rfl) (by kernel_rfl) (by kernel_rfl) (fun _ _ _ h => h) (Or.inl ⟨by rfl, ?_⟩) (by assumption) ?_
              rotate_left 1
              · intro w _; go_simp; try with_reducible rfl
              try simp only [Act.put, List.getElem_toArray, List.getElem_cons_zero, List.getElem_cons_succ, List.setIfInBounds_toArray, List.set_cons_zero, List.set_cons_succ]
              refine wpAnyH_take (i := 7) (v := ?_) rfl (by kernel_rfl) (by kernel_rfl) (by kernel_rfl) (fun _ _ _ h => h) (Or.inl ⟨by rfl, ?_⟩) (by assumption) ?_
              rotate_left 1
              · intro w _; go_simp; try with_reducible rfl
              try simp only [Act.put, List.getElem_toArray, List.getElem_cons_zero, List.getElem_cons_succ, List.setIfInBounds_toArray, List.set_cons_zero, List.set_cons_succ]
              refine wpAnyH_take (i := 8) (v := ?_) rfl (by kernel_rfl) (by kernel_rfl) (by kernel_rfl) (fun _ _ _ h => h) (Or.inl ⟨by rfl, ?_⟩) (by assumption) ?_
              rotate_left 1
              · intro w _; go_simp; try with_reducible rfl
              try simp only [Act.put, List.getElem_toArray, List.getElem_cons_zero, List.getElem_cons_succ, List.setIfInBounds_toArray, List.set_cons_zero, List.set_cons_succ]
              refine wpAnyH_take (i := 9) (v := ?_) rfl (by kernel_rfl) (by kernel_rfl) (by kernel_rfl) (fun _ _ _ h => h) (Or.inl ⟨by rfl, ?_⟩) (by assumption) ?_
              rotate_left 1
              · intro w hSw; (try dsimp only at hSw); obtain ⟨-, -, -, ⟨x0, x1, x2, x3, x4, x5, x6, x7, x8⟩, -⟩ := hSw.out; dsimp only at x1 x2 x8; go_simp; try with_reducible rfl
              try simp only [Act.put, List.getElem_toArray, List.getElem_cons_zero, List.getElem_cons_succ, List.setIfInBounds_toArray, List.set_cons_zero, List.set_cons_succ]
              refine wpAnyH_take (i := 10) (v := ?_) rfl (by kernel_rfl) (by kernel_rfl) (by kernel_rfl) (fun _ _ _ h => h) (Or.inl ⟨by rfl, ?_⟩) (by assumption) ?_
              rotate_left 1
              · intro w _; go_simp; try with_reducible rfl
              try simp only [Act.put, List.getElem_toArray, List.getElem_cons_zero, List.getElem_cons_succ, List.setIfInBounds_toArray, List.set_cons_zero, List.set_cons_succ]
              refine wpAnyH_take (i := 11) (v := ?_) rfl (by kernel_rfl) (by kernel_rfl) (by kernel_rfl) (fun _ _ _ h => h) (Or.inl ⟨by rfl, ?_⟩) (by assumption) ?_
              rotate_left 1
              · intro w hSw; (try dsimp only at hSw); have hp2 := hp1; go_simp; rw [HDA.out]; try with_reducible rfl
              try simp only [Act.put, List.getElem_toArray, List.getElem_cons_zero, List.getElem_cons_succ, List.setIfInBounds_toArray, List.set_cons_zero, List.set_cons_succ]
              refine wpAnyH_ready (rs := [12]) (by kernel_rfl) (by simp) ?_
              refine AllReadyH.cons rfl (fun K hK => ?_) AllReadyH.nil
              go_simp
              refine (KF2 _ _ _ hHeld.out.2.2.2.2.2.1 hHeld.out.2.2.2.2.2.2.1 (HRS.out _ hHeld.out.2.1) (by omega)).out.mono ?_
              rintro r1 wb ⟨rfl, hb⟩
              go_wp2_with fail
              refine hK.out _ _ (Hsx.call hb hHeld) (fun hHeld => ?_)
              clear hK K
              try simp only [Act.put, List.getElem_toArray, List.getElem_cons_zero, List.getElem_cons_succ, List.setIfInBounds_toArray, List.set_cons_zero, List.set_cons_succ]
              refine wpAnyH_take (i := 13) (v := ?_) rfl (by kernel_rfl) (by kernel_rfl) (by kernel_rfl) (fun _ _ _ h => h) (Or.inl ⟨by rfl, ?_⟩) (by assumption) ?_
              rotate_left 1
              · intro w _; go_simp; try with_reducible rfl
              try simp only [Act.put, List.getElem_toArray, List.getElem_cons_zero, List.getElem_cons_succ, List.setIfInBounds_toArray, List.set_cons_zero, List.set_cons_succ]
              refine wpAnyH_take (i := 14) (v := ?_) rfl (by kernel_rfl) (by kernel_rfl) (by kernel_rfl) (fun _ _ _ h => h) (Or.inl ⟨by rfl, ?_⟩) (by assumption) ?_
              rotate_left 1
              · intro w _; go_simp; try with_reducible rfl
              try simp only [Act.put, List.getElem_toArray, List.getElem_cons_zero, List.getElem_cons_succ, List.setIfInBounds_toArray, List.set_cons_zero, List.set_cons_succ]
              refine wpAnyH_done (by kernel_rfl) ?_ _
              have S9 := hHeld
              clear hHeld S8
              obtain ⟨-, -, -, ⟨x0, x1, x2, x3, x4, x5, x6, x7, x8⟩, -⟩ := S9.out
              dsimp only at x1 x2 x8
              go_wp2_with fail
              refine (mfits_v ⟨XA, xc, XB, xd, XD, xk, xe⟩ m A c n X v _ S9.out.2.2.2.2.2.1 S9.out.2.2.2.2.2.2.1 S9.out.2.2.2.2.1 HNX.out HV.out).mono ?_
              rintro r1 w9 ⟨rfl, hb9⟩
              have SA := Lib.hid (S9.out.call hb9)
              clear hb9 S9
              clear x0 x1 x2 x3 x4 x5 x6 x7 x8
              cases v with
              | true =>
                obtain ⟨hkx, hnx⟩ := HV1.out rfl
                have HK7 := Lib.hid hkx
                have hnn : n = na := by rw [← HNX.out, hnx, HNA.out]
                have HN7 : Hid (X.length = na ∧ m.a.length = na) := ⟨by rw [HNX.out, hnn], HNA.out⟩
                clear hkx hnx HNX
                subst n
                go_wp2_with fail
                generalize hB : w9.heap.size = B9 at *
                go_loopw [9, 10] (fun ks i wr => ∃ (j : Nat) (A' : Option Addr) (c' : Nat), j ≤ na ∧ i = .int .i64 j ∧ ks = .slice A' j c' ∧ Hid (wr.ownsRow B9 5 1 (.slice A' j c') j (cel (m.a.take j))) ∧ Hid (Below B9 w9 wr)) (fun _ i _ => na - (intOf i).toNat)
                case atStart => exact ⟨0, none, 0, by omega, rfl, rfl, Lib.hid (World.ownsRow_nil _ _ _ _), Lib.hid (Below.refl _ _)⟩
                case round =>
                  obtain ⟨j, A2, c2, hj, rfl, rfl, HO, HB⟩ := hrel
                  have hsz := HB.out.size
                  by_cases h1 : j < na
                  · have h1x : j < X.length := by rw [HN7.out.1]; exact h1
                    have h1a : j < m.a.length := by rw [HN7.out.2]; exact h1
                    have hW := SA.out.2.2.2.2.1
                    have hW2 := hW.keep (by rw [hB]; exact HB.out)
                    obtain ⟨ad, rfl, hc0, hc1, hc2⟩ := hW2.at_ h1x
                    clear hW hW2 hc1 hc2
                    have hke := kinds_at HK7.out h1x h1a
                    rw [hke] at hc0
                    have HT : Hid (m.a.take (j + 1) = m.a.take j ++ [m.a[j]]) := by rw [Hid, List.take_add_one, List.getElem?_eq_getElem h1a]; rfl
                    have hkb := HBA.out _ (List.getElem_mem h1a)
                    clear hke
                    generalize m.a[j] = k at *
                    have HO1 := Lib.hid (own_below (B := B9) HO.out (new1 (a := .cells #[.int .u8 k] 5)) (Nat.le_refl _))
                    have HR1 := Lib.hid (rd_one wr k hkb)
                    have HB1 : Hid (Below B9 w9 (wr.alloc (.cells #[.int .u8 k] 5))) := HB.out.alloc (by omega) _
                    clear HO HB
                    go_wp2_with (at_builtin; (refine wpList_append_rd _ rfl _ _ 22 rfl B9 5 i0 Tryd.underlying22 hi hz0 hz1 hz2 _ j (m.a.take j) rfl HO1.out _ 1 1 [k] rfl HR1.out rfl (by omega) (by have := HB1.out.size; omega) ?_))
                    intro A3 c3 w10 ho hg hb _
                    have HO2 := Lib.hid ho
                    have HB2 := Lib.hid (HB1.out.trans hb)
                    clear ho hg hb HO1 HR1 HB1
                    go_wp2_with fail
                    go_roundw
                    case rel => exact ⟨j + 1, A3, c3, by omega, by go_num, rfl, by rw [HT.out]; exact HO2, HB2⟩
                    case measure => simp [intOf]; omega
                  · have hjn : j = na := by omega
                    subst j
                    have HO0 : Hid (wr.ownsRow B9 5 1 (.slice A2 na c2) na (cel m.a)) := by
                      have := HO.out
                      rwa [List.take_of_length_le (by rw [HN7.out.2]; omega)] at this
                    have HB0 := HB
                    clear HO HB
                    go_wp2_with fail
                    go_loopw [9, 11] (fun ks i w11 => ∃ (j : Nat) (A' : Option Addr) (c' : Nat), j ≤ M ∧ i = .int .i64 j ∧ ks = .slice A' (na + j) c' ∧ Hid (w11.ownsRow B9 5 1 (.slice A' (na + j) c') (na + j) (cel (m.a ++ m.l.take j))) ∧ Hid (Below B9 w9 w11)) (fun _ i _ => M - (intOf i).toNat)
                    case atStart => exact ⟨0, A2, c2, by omega, rfl, rfl, by simpa using HO0, HB0⟩
                    case round =>
                      obtain ⟨j, A4, c4, hj, rfl, rfl, HO, HB⟩ := hrel
                      clear HO0 HB0
                      have hsz2 := HB.out.size
                      by_cases h2 : j < M
                      · have h1l : j < m.l.length := by rw [HM.out]; exact h2
                        have h1z : j < (m.l.map fun k => ((k, 0, 0) : Vlu)).length := by simpa using h1l
                        have hW2 := (SA.out.2.2.1).keep (by rw [hB]; exact HB.out)
                        obtain ⟨ad, rfl, hc0, hc1, hc2⟩ := hW2.at_ h1z
                        clear hc1 hc2 hW2
                        rw [List.getElem_map] at hc0
                        have HT : Hid (m.a ++ m.l.take (j + 1) = m.a ++ (m.l.take j ++ [m.l[j]])) := by rw [Hid, List.take_add_one, List.getElem?_eq_getElem h1l]; rfl
                        have hkb := HBL.out _ (List.getElem_mem h1l)
                        have HZ : Hid (∀ w', Below B9 w9 w' → w'.cell? ⟨(ad.add (j * 3)).block, (ad.add (j * 3)).off + 1, none⟩ = some (.int .i64 0) ∧ w'.cell? ⟨(ad.add (j * 3)).block, (ad.add (j * 3)).off + 2, none⟩ = some (.int .i64 0)) := by
                          intro w' hb
                          have hW2 := (SA.out.2.2.1).keep (by rw [hB]; exact hb)
                          obtain ⟨ad', e', h0, h1', h2'⟩ := hW2.at_ h1z
                          obtain rfl := Option.some.inj e'
                          rw [List.getElem_map] at h1' h2'
                          exact ⟨h1', h2'⟩
                        generalize m.l[j] = k at *
                        have HO1 := Lib.hid (own_below (B := B9) HO.out (new1 (a := .cells #[.int .u8 k] 5)) (Nat.le_refl _))
                        have HR1 := Lib.hid (rd_one wr k hkb)
                        have HB1 : Hid (Below B9 w9 (wr.alloc (.cells #[.int .u8 k] 5))) := HB.out.alloc (by omega) _
                        clear HO HB
                        go_wp2_with (at_builtin; refine wpList_append_rd _ rfl _ _ 22 rfl B9 5 i0 Tryd.underlying22 hi hz0 hz1 hz2 _ (na + j) (m.a ++ m.l.take j) rfl HO1.out _ 1 1 [k] rfl HR1.out rfl (by omega) (by have := HB1.out.size; omega) ?_)
                        intro A3 c3 w10 ho hg hb _
                        have HO2 := Lib.hid ho
                        have HB2 := Lib.hid (HB1.out.trans hb)
                        clear ho hg hb HO1 HR1 HB1 hc0
                        obtain ⟨hc1, hc2⟩ := HZ.out _ HB2.out
                        clear HZ
                        go_wp2_with fail
                        go_roundw
                        case rel => exact ⟨j + 1, A3, c3, by omega, by go_num, rfl, by rw [HT.out]; exact HO2, HB2⟩
                        case measure => simp [intOf]; omega
                      · have hjn : j = M := by omega
                        subst j
                        have S12 := Lib.hid (((SA.out.call (by rw [hB]; exact HB.out)).add (fR A4 c4 (m.a ++ m.l)) (own_rd (by have := HO.out; rwa [List.take_of_length_le (by rw [HM.out]; omega)] at this) HBAL.out)))
                        clear HO HB
                        obtain ⟨-, -, -, -, ⟨x0, x1, x2, x3, x4, x5, x6, x7, x8⟩, -⟩ := S12.out; dsimp only at x1 x2 x8
                        go_wp2_with fail
                        refine (mkinds_v ⟨XA, xc, XB, xd, XD, xk, xe⟩ m _ S12.out.2.2.2.2.2.2.1 (by rw [HN7.out.2]; omega) (by rw [HM.out]; omega)).mono ?_
                        rintro r1 w13 ⟨A5', c5', rfl, ho, hb⟩
                        have S13 := Lib.hid ((S12.out.call hb).add (fR A5' c5' (m.a ++ m.l)) (own_rd (by simpa using ho) HBAL.out))
                        clear ho hb S12
                        clear x0 x1 x2 x3 x4 x5 x6 x7 x8
                        go_wp2_with fail
                        refine (r7same_v A4 A5' c4 c5' _ _ (m.a ++ m.l) (m.a ++ m.l) true _ S13.out.2.2.1 S13.out.2.1 (by rw [List.length_append, HN7.out.2, HM.out]) (by simp) (by simp)).mono ?_
                        rintro r1 w14 ⟨rfl, hb⟩
                        have S14 := Lib.hid (S13.out.call hb)
                        have e16 : ((na : Int) + M ≤ 16) := by omega
                        clear hb S13
                        go_wp2_with fail
                        go_ret
                        exact ⟨rfl, S14.out.1⟩
              | false =>
                have HN7 : Hid (X0.length = na ∧ m.a.length = na) := ⟨HX0.out.2.1, HNA.out⟩
                have HK7 := Lib.hid HX0.out.2.2
                go_wp2_with fail
                generalize hB : w9.heap.size = B9 at *
                go_loopw [9, 10] (fun ks i wr => ∃ (j : Nat) (A' : Option Addr) (c' : Nat), j ≤ na ∧ i = .int .i64 j ∧ ks = .slice A' j c' ∧ Hid (wr.ownsRow B9 5 1 (.slice A' j c') j (cel (m.a.take j))) ∧ Hid (Below B9 w9 wr)) (fun _ i _ => na - (intOf i).toNat)
                case atStart => exact ⟨0, none, 0, by omega, rfl, rfl, Lib.hid (World.ownsRow_nil _ _ _ _), Lib.hid (Below.refl _ _)⟩
                case round =>
                  obtain ⟨j, A2, c2, hj, rfl, rfl, HO, HB⟩ := hrel
                  have hsz := HB.out.size
                  by_cases h1 : j < na
                  · have h1x : j < X0.length := by rw [HN7.out.1]; exact h1
                    have h1a : j < m.a.length := by rw [HN7.out.2]; exact h1
                    have hW := SA.out.2.1
                    have hW2 := hW.keep (by rw [hB]; exact HB.out)
                    obtain ⟨ad, rfl, hc0, hc1, hc2⟩ := hW2.at_ h1x
                    clear hW hW2 hc1 hc2
                    have hke := kinds_at HK7.out h1x h1a
                    rw [hke] at hc0
                    have HT : Hid (m.a.take (j + 1) = m.a.take j ++ [m.a[j]]) := by rw [Hid, List.take_add_one, List.getElem?_eq_getElem h1a]; rfl
                    have hkb := HBA.out _ (List.getElem_mem h1a)
                    clear hke
                    generalize m.a[j] = k at *
                    have HO1 := Lib.hid (own_below (B := B9) HO.out (new1 (a := .cells #[.int .u8 k] 5)) (Nat.le_refl _))
                    have HR1 := Lib.hid (rd_one wr k hkb)
                    have HB1 : Hid (Below B9 w9 (wr.alloc (.cells #[.int .u8 k] 5))) := HB.out.alloc (by omega) _
                    clear HO HB
                    go_wp2_with (at_builtin; (refine wpList_append_rd _ rfl _ _ 22 rfl B9 5 i0 Tryd.underlying22 hi hz0 hz1 hz2 _ j (m.a.take j) rfl HO1.out _ 1 1 [k] rfl HR1.out rfl (by omega) (by have := HB1.out.size; omega) ?_))
                    intro A3 c3 w10 ho hg hb _
                    have HO2 := Lib.hid ho
                    have HB2 := Lib.hid (HB1.out.trans hb)
                    clear ho hg hb HO1 HR1 HB1
                    go_wp2_with fail
                    go_roundw
                    case rel => exact ⟨j + 1, A3, c3, by omega, by go_num, rfl, by rw [HT.out]; exact HO2, HB2⟩
                    case measure => simp [intOf]; omega
                  · have hjn : j = na := by omega
                    subst j
                    have HO0 : Hid (wr.ownsRow B9 5 1 (.slice A2 na c2) na (cel m.a)) := by
                      have := HO.out
                      rwa [List.take_of_length_le (by rw [HN7.out.2]; omega)] at this
                    have HB0 := HB
                    clear HO HB
                    go_wp2_with fail
                    go_loopw [9, 11] (fun ks i w11 => ∃ (j : Nat) (A' : Option Addr) (c' : Nat), j ≤ M ∧ i = .int .i64 j ∧ ks = .slice A' (na + j) c' ∧ Hid (w11.ownsRow B9 5 1 (.slice A' (na + j) c') (na + j) (cel (m.a ++ m.l.take j))) ∧ Hid (Below B9 w9 w11)) (fun _ i _ => M - (intOf i).toNat)
                    case atStart => exact ⟨0, A2, c2, by omega, rfl, rfl, by simpa using HO0, HB0⟩
                    case round =>
                      obtain ⟨j, A4, c4, hj, rfl, rfl, HO, HB⟩ := hrel
                      clear HO0 HB0
                      have hsz2 := HB.out.size
                      by_cases h2 : j < M
                      · have h1l : j < m.l.length := by rw [HM.out]; exact h2
                        have h1z : j < (m.l.map fun k => ((k, 0, 0) : Vlu)).length := by simpa using h1l
                        have hW2 := (SA.out.2.2.1).keep (by rw [hB]; exact HB.out)
                        obtain ⟨ad, rfl, hc0, hc1, hc2⟩ := hW2.at_ h1z
                        clear hc1 hc2 hW2
                        rw [List.getElem_map] at hc0
                        have HT : Hid (m.a ++ m.l.take (j + 1) = m.a ++ (m.l.take j ++ [m.l[j]])) := by rw [Hid, List.take_add_one, List.getElem?_eq_getElem h1l]; rfl
                        have hkb := HBL.out _ (List.getElem_mem h1l)
                        have HZ : Hid (∀ w', Below B9 w9 w' → w'.cell? ⟨(ad.add (j * 3)).block, (ad.add (j * 3)).off + 1, none⟩ = some (.int .i64 0) ∧ w'.cell? ⟨(ad.add (j * 3)).block, (ad.add (j * 3)).off + 2, none⟩ = some (.int .i64 0)) := by
                          intro w' hb
                          have hW2 := (SA.out.2.2.1).keep (by rw [hB]; exact hb)
                          obtain ⟨ad', e', h0, h1', h2'⟩ := hW2.at_ h1z
                          obtain rfl := Option.some.inj e'
                          rw [List.getElem_map] at h1' h2'
                          exact ⟨h1', h2'⟩
                        generalize m.l[j] = k at *
                        have HO1 := Lib.hid (own_below (B := B9) HO.out (new1 (a := .cells #[.int .u8 k] 5)) (Nat.le_refl _))
                        have HR1 := Lib.hid (rd_one wr k hkb)
                        have HB1 : Hid (Below B9 w9 (wr.alloc (.cells #[.int .u8 k] 5))) := HB.out.alloc (by omega) _
                        clear HO HB
                        go_wp2_with (at_builtin; refine wpList_append_rd _ rfl _ _ 22 rfl B9 5 i0 Tryd.underlying22 hi hz0 hz1 hz2 _ (na + j) (m.a ++ m.l.take j) rfl HO1.out _ 1 1 [k] rfl HR1.out rfl (by omega) (by have := HB1.out.size; omega) ?_)
                        intro A3 c3 w10 ho hg hb _
                        have HO2 := Lib.hid ho
                        have HB2 := Lib.hid (HB1.out.trans hb)
                        clear ho hg hb HO1 HR1 HB1 hc0
                        obtain ⟨hc1, hc2⟩ := HZ.out _ HB2.out
                        clear HZ
                        go_wp2_with fail
                        go_roundw
                        case rel => exact ⟨j + 1, A3, c3, by omega, by go_num, rfl, by rw [HT.out]; exact HO2, HB2⟩
                        case measure => simp [intOf]; omega
                      · have hjn : j = M := by omega
                        subst j
                        have S12 := Lib.hid (((SA.out.call (by rw [hB]; exact HB.out)).add (fR A4 c4 (m.a ++ m.l)) (own_rd (by have := HO.out; rwa [List.take_of_length_le (by rw [HM.out]; omega)] at this) HBAL.out)))
                        clear HO HB
                        obtain ⟨-, -, -, -, ⟨x0, x1, x2, x3, x4, x5, x6, x7, x8⟩, -⟩ := S12.out; dsimp only at x1 x2 x8
                        go_wp2_with fail
                        refine (mkinds_v ⟨XA, xc, XB, xd, XD, xk, xe⟩ m _ S12.out.2.2.2.2.2.2.1 (by rw [HN7.out.2]; omega) (by rw [HM.out]; omega)).mono ?_
                        rintro r1 w13 ⟨A5', c5', rfl, ho, hb⟩
                        have S13 := Lib.hid ((S12.out.call hb).add (fR A5' c5' (m.a ++ m.l)) (own_rd (by simpa using ho) HBAL.out))
                        clear ho hb S12
                        clear x0 x1 x2 x3 x4 x5 x6 x7 x8
                        go_wp2_with fail
                        refine (r7same_v A4 A5' c4 c5' _ _ (m.a ++ m.l) (m.a ++ m.l) true _ S13.out.2.2.1 S13.out.2.1 (by rw [List.length_append, HN7.out.2, HM.out]) (by simp) (by simp)).mono ?_
                        rintro r1 w14 ⟨rfl, hb⟩
                        have S14 := Lib.hid (S13.out.call hb)
                        have e16 : ((na : Int) + M ≤ 16) := by omega
                        clear hb S13
                        go_wp2_with fail
                        go_ret
                        exact ⟨rfl, S14.out.1⟩
            · clear KF2
              refine wp_region_held_drew (S := fun w' => Hid (Sx w w' [fW A6 c6 X0, fW A5 c5 (m.l.map fun k => (k, 0, 0)), fM w.heap.size ⟨XA, xc, XB, xd, XD, xk, xe⟩ m, fW A c X, fH ⟨XA, xc, XB, xd, XD, xk, xe⟩ m, fGM])) (by kernel_rfl) (Hsx.drew S8) (fun hHeld => ?_)
              refine wpAnyH_take (i := 0) (v := ?_) rfl (by kernel_rfl) (by kernel_rfl) (by kernel_rfl) (fun _ _ _ h => h) (Or.inl ⟨by rfl, ?_⟩) (by assumption) ?_
              rotate_left 1
              · intro w hSw; (try dsimp only at hSw); obtain ⟨-, -, -, ⟨x0, x1, x2, x3, x4, x5, x6, x7, x8⟩, -⟩ := hSw.out; dsimp only at x1 x2 x8; go_simp; try with_reducible rfl
              try simp only [Act.put, List.getElem_toArray, List.getElem_cons_zero, List.getElem_cons_succ, List.setIfInBounds_toArray, List.set_cons_zero, List.set_cons_succ]
              refine wpAnyH_take (i := 1) (v := ?_) rfl (by kernel_rfl) (by kernel_rfl) (by kernel_rfl) (fun _ _ _ h => h) (Or.inl ⟨by rfl, ?_⟩) (by assumption) ?_
              rotate_left 1
              · intro w _; go_simp; try with_reducible rfl
              try simp only [Act.put, List.getElem_toArray, List.getElem_cons_zero, List.getElem_cons_succ, List.setIfInBounds_toArray, List.set_cons_zero, List.set_cons_succ]
              refine wpAnyH_ready (rs := [2]) (by kernel_rfl) (by simp) ?_
              refine AllReadyH.cons rfl (fun K hK => ?_) AllReadyH.nil
              go_simp
              refine (KF1 _ _ _ hHeld.out.2.2.2.2.2.1 hHeld.out.2.2.2.2.2.2.1 hHeld.out.2.1).out.mono ?_
              rintro r1 wb ⟨rfl, hb⟩
              go_wp2_with fail
              refine hK.out _ _ (Hsx.call hb hHeld) (fun hHeld => ?_)
              clear hK K
              try simp only [Act.put, List.getElem_toArray, List.getElem_cons_zero, List.getElem_cons_succ, List.setIfInBounds_toArray, List.set_cons_zero, List.set_cons_succ]
              refine wpAnyH_take (i := 3) (v := ?_) rfl (by kernel_rfl) (by kernel_rfl) (by kernel_rfl) (fun _ _ _ h => h) (Or.inl ⟨by rfl, ?_⟩) (by assumption) ?_
              rotate_left 1
              · intro w _; go_simp; try with_reducible rfl
              try simp only [Act.put, List.getElem_toArray, List.getElem_cons_zero, List.getElem_cons_succ, List.setIfInBounds_toArray, List.set_cons_zero, List.set_cons_succ]
              refine wpAnyH_take (i := 4) (v := ?_) rfl (by kernel_rfl) (by kernel_rfl) (by kernel_rfl) (fun _ _ _ h => h) (Or.inl ⟨by rfl, ?_⟩) (by assumption) ?_
              rotate_left 1
              · intro w _; go_simp; try with_reducible rfl
              try simp only [Act.put, List.getElem_toArray, List.getElem_cons_zero, List.getElem_cons_succ, List.setIfInBounds_toArray, List.set_cons_zero, List.set_cons_succ]
              refine wpAnyH_take (i := 5) (v := ?_) rfl (by kernel_rfl) (by kernel_rfl) (by kernel_rfl) (fun _ _ _ h => h) (Or.inl ⟨by rfl, ?_⟩) (by assumption) ?_
              rotate_left 1
              · intro w _; go_simp; try with_reducible rfl
              try simp only [Act.put, List.getElem_toArray, List.getElem_cons_zero, List.getElem_cons_succ, List.setIfInBounds_toArray, List.set_cons_zero, List.set_cons_succ]
              refine wpAnyH_take (i := 6) (v := ?_) rfl (by kernel_rfl) (by kernel_rfl) (by kernel_rfl) (fun _ _ _ h => h) (Or.inl ⟨by rfl, ?_⟩) (by assumption) ?_
              rotate_left 1
              · intro w _; go_simp; try with_reducible rfl
              try simp only [Act.put, List.getElem_toArray, List.getElem_cons_zero, List.getElem_cons_succ, List.setIfInBounds_toArray, List.set_cons_zero, List.set_cons_succ]
              refine wpAnyH_take (i := 7) (v := ?_) rfl (by kernel_rfl) (by kernel_rfl) (by kernel_rfl) (fun _ _ _ h => h) (Or.inl ⟨by rfl, ?_⟩) (by assumption) ?_
              rotate_left 1
              · intro w _; go_simp; try with_reducible rfl
              try simp only [Act.put, List.getElem_toArray, List.getElem_cons_zero, List.getElem_cons_succ, List.setIfInBounds_toArray, List.set_cons_zero, List.set_cons_succ]
              refine wpAnyH_take (i := 8) (v := ?_) rfl (by kernel_rfl) (by kernel_rfl) (by kernel_rfl) (fun _ _ _ h => h) (Or.inl ⟨by rfl, ?_⟩) (by assumption) ?_
              rotate_left 1
              · intro w _; go_simp; try with_reducible rfl
              try simp only [Act.put, List.getElem_toArray, List.getElem_cons_zero, List.getElem_cons_succ, List.setIfInBounds_toArray, List.set_cons_zero, List.set_cons_succ]
              refine wpAnyH_take (i := 9) (v := undef) rfl (by kernel_rfl) (by kernel_rfl) (by kernel_rfl) (fun _ _ _ h => h) (Or.inr ⟨by rfl, rfl⟩) (by assumption) ?_
              try simp only [Act.put, List.getElem_toArray, List.getElem_cons_zero, List.getElem_cons_succ, List.setIfInBounds_toArray, List.set_cons_zero, List.set_cons_succ]
              refine wpAnyH_take (i := 10) (v := undef) rfl (by kernel_rfl) (by kernel_rfl) (by kernel_rfl) (fun _ _ _ h => h) (Or.inr ⟨by rfl, rfl⟩) (by assumption) ?_
              try simp only [Act.put, List.getElem_toArray, List.getElem_cons_zero, List.getElem_cons_succ, List.setIfInBounds_toArray, List.set_cons_zero, List.set_cons_succ]
              refine wpAnyH_take (i := 11) (v := undef) rfl (by kernel_rfl) (by kernel_rfl) (by kernel_rfl) (fun _ _ _ h => h) (Or.inr ⟨by rfl, rfl⟩) (by assumption) ?_
              try simp only [Act.put, List.getElem_toArray, List.getElem_cons_zero, List.getElem_cons_succ, List.setIfInBounds_toArray, List.set_cons_zero, List.set_cons_succ]
              refine wpAnyH_take (i := 12) (v := undef) rfl (by kernel_rfl) (by kernel_rfl) (by kernel_rfl) (fun _ _ _ h => h) (Or.inr ⟨by rfl, rfl⟩) (by assumption) ?_
              try simp only [Act.put, List.getElem_toArray, List.getElem_cons_zero, List.getElem_cons_succ, List.setIfInBounds_toArray, List.set_cons_zero, List.set_cons_succ]
              refine wpAnyH_take (i := 13) (v := ?_) rfl (by kernel_rfl) (by kernel_rfl) (by kernel_rfl) (fun _ _ _ h => h) (Or.inl ⟨by rfl, ?_⟩) (by assumption) ?_
              rotate_left 1
              · intro w _; go_simp; try with_reducible rfl
              try simp only [Act.put, List.getElem_toArray, List.getElem_cons_zero, List.getElem_cons_succ, List.setIfInBounds_toArray, List.set_cons_zero, List.set_cons_succ]
              refine wpAnyH_take (i := 14) (v := ?_) rfl (by kernel_rfl) (by kernel_rfl) (by kernel_rfl) (fun _ _ _ h => h) (Or.inl ⟨by rfl, ?_⟩) (by assumption) ?_
              rotate_left 1
              · intro w _; go_simp; try with_reducible rfl
              try simp only [Act.put, List.getElem_toArray, List.getElem_cons_zero, List.getElem_cons_succ, List.setIfInBounds_toArray, List.set_cons_zero, List.set_cons_succ]
              refine wpAnyH_done (by kernel_rfl) ?_ _
              have S9 := hHeld
              clear hHeld S8
              obtain ⟨-, -, -, ⟨x0, x1, x2, x3, x4, x5, x6, x7, x8⟩, -⟩ := S9.out
              dsimp only at x1 x2 x8
              go_wp2_with fail
              refine (mfits_v ⟨XA, xc, XB, xd, XD, xk, xe⟩ m A c n X v _ S9.out.2.2.2.2.2.1 S9.out.2.2.2.2.2.2.1 S9.out.2.2.2.2.1 HNX.out HV.out).mono ?_
              rintro r1 w9 ⟨rfl, hb9⟩
              have SA := Lib.hid (S9.out.call hb9)
              clear hb9 S9
              clear x0 x1 x2 x3 x4 x5 x6 x7 x8
              cases v with
              | true =>
                obtain ⟨hkx, hnx⟩ := HV1.out rfl
                have HK7 := Lib.hid hkx
                have hnn : n = na := by rw [← HNX.out, hnx, HNA.out]
                have HN7 : Hid (X.length = na ∧ m.a.length = na) := ⟨by rw [HNX.out, hnn], HNA.out⟩
                clear hkx hnx HNX
                subst n
                go_wp2_with fail
                generalize hB : w9.heap.size = B9 at *
                go_loopw [9, 10] (fun ks i wr => ∃ (j : Nat) (A' : Option Addr) (c' : Nat), j ≤ na ∧ i = .int .i64 j ∧ ks = .slice A' j c' ∧ Hid (wr.ownsRow B9 5 1 (.slice A' j c') j (cel (m.a.take j))) ∧ Hid (Below B9 w9 wr)) (fun _ i _ => na - (intOf i).toNat)
                case atStart => exact ⟨0, none, 0, by omega, rfl, rfl, Lib.hid (World.ownsRow_nil _ _ _ _), Lib.hid (Below.refl _ _)⟩
                case round =>
                  obtain ⟨j, A2, c2, hj, rfl, rfl, HO, HB⟩ := hrel
                  have hsz := HB.out.size
                  by_cases h1 : j < na
                  · exfalso; omega
                  · have hjn : j = na := by omega
                    subst j
                    have HO0 : Hid (wr.ownsRow B9 5 1 (.slice A2 na c2) na (cel m.a)) := by
                      have := HO.out
                      rwa [List.take_of_length_le (by rw [HN7.out.2]; omega)] at this
                    have HB0 := HB
                    clear HO HB
                    go_wp2_with fail
                    go_loopw [9, 11] (fun ks i w11 => ∃ (j : Nat) (A' : Option Addr) (c' : Nat), j ≤ M ∧ i = .int .i64 j ∧ ks = .slice A' (na + j) c' ∧ Hid (w11.ownsRow B9 5 1 (.slice A' (na + j) c') (na + j) (cel (m.a ++ m.l.take j))) ∧ Hid (Below B9 w9 w11)) (fun _ i _ => M - (intOf i).toNat)
                    case atStart => exact ⟨0, A2, c2, by omega, rfl, rfl, by simpa using HO0, HB0⟩
                    case round =>
                      obtain ⟨j, A4, c4, hj, rfl, rfl, HO, HB⟩ := hrel
                      clear HO0 HB0
                      have hsz2 := HB.out.size
                      by_cases h2 : j < M
                      · have h1l : j < m.l.length := by rw [HM.out]; exact h2
                        have h1z : j < (m.l.map fun k => ((k, 0, 0) : Vlu)).length := by simpa using h1l
                        have hW2 := (SA.out.2.2.1).keep (by rw [hB]; exact HB.out)
                        obtain ⟨ad, rfl, hc0, hc1, hc2⟩ := hW2.at_ h1z
                        clear hc1 hc2 hW2
                        rw [List.getElem_map] at hc0
                        have HT : Hid (m.a ++ m.l.take (j + 1) = m.a ++ (m.l.take j ++ [m.l[j]])) := by rw [Hid, List.take_add_one, List.getElem?_eq_getElem h1l]; rfl
                        have hkb := HBL.out _ (List.getElem_mem h1l)
                        have HZ : Hid (∀ w', Below B9 w9 w' → w'.cell? ⟨(ad.add (j * 3)).block, (ad.add (j * 3)).off + 1, none⟩ = some (.int .i64 0) ∧ w'.cell? ⟨(ad.add (j * 3)).block, (ad.add (j * 3)).off + 2, none⟩ = some (.int .i64 0)) := by
                          intro w' hb
                          have hW2 := (SA.out.2.2.1).keep (by rw [hB]; exact hb)
                          obtain ⟨ad', e', h0, h1', h2'⟩ := hW2.at_ h1z
                          obtain rfl := Option.some.inj e'
                          rw [List.getElem_map] at h1' h2'
                          exact ⟨h1', h2'⟩
                        generalize m.l[j] = k at *
                        have HO1 := Lib.hid (own_below (B := B9) HO.out (new1 (a := .cells #[.int .u8 k] 5)) (Nat.le_refl _))
                        have HR1 := Lib.hid (rd_one wr k hkb)
                        have HB1 : Hid (Below B9 w9 (wr.alloc (.cells #[.int .u8 k] 5))) := HB.out.alloc (by omega) _
                        clear HO HB
                        go_wp2_with (at_builtin; refine wpList_append_rd _ rfl _ _ 22 rfl B9 5 i0 Tryd.underlying22 hi hz0 hz1 hz2 _ (na + j) (m.a ++ m.l.take j) rfl HO1.out _ 1 1 [k] rfl HR1.out rfl (by omega) (by have := HB1.out.size; omega) ?_)
                        intro A3 c3 w10 ho hg hb _
                        have HO2 := Lib.hid ho
                        have HB2 := Lib.hid (HB1.out.trans hb)
                        clear ho hg hb HO1 HR1 HB1 hc0
                        obtain ⟨hc1, hc2⟩ := HZ.out _ HB2.out
                        clear HZ
                        go_wp2_with fail
                        go_roundw
                        case rel => exact ⟨j + 1, A3, c3, by omega, by go_num, rfl, by rw [HT.out]; exact HO2, HB2⟩
                        case measure => simp [intOf]; omega
                      · have hjn : j = M := by omega
                        subst j
                        have S12 := Lib.hid (((SA.out.call (by rw [hB]; exact HB.out)).add (fR A4 c4 (m.a ++ m.l)) (own_rd (by have := HO.out; rwa [List.take_of_length_le (by rw [HM.out]; omega)] at this) HBAL.out)))
                        clear HO HB
                        obtain ⟨-, -, -, -, ⟨x0, x1, x2, x3, x4, x5, x6, x7, x8⟩, -⟩ := S12.out; dsimp only at x1 x2 x8
                        go_wp2_with fail
                        refine (mkinds_v ⟨XA, xc, XB, xd, XD, xk, xe⟩ m _ S12.out.2.2.2.2.2.2.1 (by rw [HN7.out.2]; omega) (by rw [HM.out]; omega)).mono ?_
                        rintro r1 w13 ⟨A5', c5', rfl, ho, hb⟩
                        have S13 := Lib.hid ((S12.out.call hb).add (fR A5' c5' (m.a ++ m.l)) (own_rd (by simpa using ho) HBAL.out))
                        clear ho hb S12
                        clear x0 x1 x2 x3 x4 x5 x6 x7 x8
                        go_wp2_with fail
                        refine (r7same_v A4 A5' c4 c5' _ _ (m.a ++ m.l) (m.a ++ m.l) true _ S13.out.2.2.1 S13.out.2.1 (by rw [List.length_append, HN7.out.2, HM.out]) (by simp) (by simp)).mono ?_
                        rintro r1 w14 ⟨rfl, hb⟩
                        have S14 := Lib.hid (S13.out.call hb)
                        have e16 : ((na : Int) + M ≤ 16) := by omega
                        clear hb S13
                        go_wp2_with fail
                        go_ret
                        exact ⟨rfl, S14.out.1⟩
              | false =>
                have HN7 : Hid (X0.length = na ∧ m.a.length = na) := ⟨HX0.out.2.1, HNA.out⟩
                have HK7 := Lib.hid HX0.out.2.2
                go_wp2_with fail
                generalize hB : w9.heap.size = B9 at *
                go_loopw [9, 10] (fun ks i wr => ∃ (j : Nat) (A' : Option Addr) (c' : Nat), j ≤ na ∧ i = .int .i64 j ∧ ks = .slice A' j c' ∧ Hid (wr.ownsRow B9 5 1 (.slice A' j c') j (cel (m.a.take j))) ∧ Hid (Below B9 w9 wr)) (fun _ i _ => na - (intOf i).toNat)
                case atStart => exact ⟨0, none, 0, by omega, rfl, rfl, Lib.hid (World.ownsRow_nil _ _ _ _), Lib.hid (Below.refl _ _)⟩
                case round =>
                  obtain ⟨j, A2, c2, hj, rfl, rfl, HO, HB⟩ := hrel
                  have hsz := HB.out.size
                  by_cases h1 : j < na
                  · exfalso; omega
                  · have hjn : j = na := by omega
                    subst j
                    have HO0 : Hid (wr.ownsRow B9 5 1 (.slice A2 na c2) na (cel m.a)) := by
                      have := HO.out
                      rwa [List.take_of_length_le (by rw [HN7.out.2]; omega)] at this
                    have HB0 := HB
                    clear HO HB
                    go_wp2_with fail
                    go_loopw [9, 11] (fun ks i w11 => ∃ (j : Nat) (A' : Option Addr) (c' : Nat), j ≤ M ∧ i = .int .i64 j ∧ ks = .slice A' (na + j) c' ∧ Hid (w11.ownsRow B9 5 1 (.slice A' (na + j) c') (na + j) (cel (m.a ++ m.l.take j))) ∧ Hid (Below B9 w9 w11)) (fun _ i _ => M - (intOf i).toNat)
                    case atStart => exact ⟨0, A2, c2, by omega, rfl, rfl, by simpa using HO0, HB0⟩
                    case round =>
                      obtain ⟨j, A4, c4, hj, rfl, rfl, HO, HB⟩ := hrel
                      clear HO0 HB0
                      have hsz2 := HB.out.size
                      by_cases h2 : j < M
                      · have h1l : j < m.l.length := by rw [HM.out]; exact h2
                        have h1z : j < (m.l.map fun k => ((k, 0, 0) : Vlu)).length := by simpa using h1l
                        have hW2 := (SA.out.2.2.1).keep (by rw [hB]; exact HB.out)
                        obtain ⟨ad, rfl, hc0, hc1, hc2⟩ := hW2.at_ h1z
                        clear hc1 hc2 hW2
                        rw [List.getElem_map] at hc0
                        have HT : Hid (m.a ++ m.l.take (j + 1) = m.a ++ (m.l.take j ++ [m.l[j]])) := by rw [Hid, List.take_add_one, List.getElem?_eq_getElem h1l]; rfl
                        have hkb := HBL.out _ (List.getElem_mem h1l)
                        have HZ : Hid (∀ w', Below B9 w9 w' → w'.cell? ⟨(ad.add (j * 3)).block, (ad.add (j * 3)).off + 1, none⟩ = some (.int .i64 0) ∧ w'.cell? ⟨(ad.add (j * 3)).block, (ad.add (j * 3)).off + 2, none⟩ = some (.int .i64 0)) := by
                          intro w' hb
                          have hW2 := (SA.out.2.2.1).keep (by rw [hB]; exact hb)
                          obtain ⟨ad', e', h0, h1', h2'⟩ := hW2.at_ h1z
                          obtain rfl := Option.some.inj e'
                          rw [List.getElem_map] at h1' h2'
                          exact ⟨h1', h2'⟩
                        generalize m.l[j] = k at *
                        have HO1 := Lib.hid (own_below (B := B9) HO.out (new1 (a := .cells #[.int .u8 k] 5)) (Nat.le_refl _))
                        have HR1 := Lib.hid (rd_one wr k hkb)
                        have HB1 : Hid (Below B9 w9 (wr.alloc (.cells #[.int .u8 k] 5))) := HB.out.alloc (by omega) _
                        clear HO HB
                        go_wp2_with (at_builtin; refine wpList_append_rd _ rfl _ _ 22 rfl B9 5 i0 Tryd.underlying22 hi hz0 hz1 hz2 _ (na + j) (m.a ++ m.l.take j) rfl HO1.out _ 1 1 [k] rfl HR1.out rfl (by omega) (by have := HB1.out.size; omega) ?_)
                        intro A3 c3 w10 ho hg hb _
                        have HO2 := Lib.hid ho
                        have HB2 := Lib.hid (HB1.out.trans hb)
                        clear ho hg hb HO1 HR1 HB1 hc0
                        obtain ⟨hc1, hc2⟩ := HZ.out _ HB2.out
                        clear HZ
                        go_wp2_with fail
                        go_roundw
                        case rel => exact ⟨j + 1, A3, c3, by omega, by go_num, rfl, by rw [HT.out]; exact HO2, HB2⟩
                        case measure => simp [intOf]; omega
                      · have hjn : j = M := by omega
                        subst j
                        have S12 := Lib.hid (((SA.out.call (by rw [hB]; exact HB.out)).add (fR A4 c4 (m.a ++ m.l)) (own_rd (by have := HO.out; rwa [List.take_of_length_le (by rw [HM.out]; omega)] at this) HBAL.out)))
                        clear HO HB
                        obtain ⟨-, -, -, -, ⟨x0, x1, x2, x3, x4, x5, x6, x7, x8⟩, -⟩ := S12.out; dsimp only at x1 x2 x8
                        go_wp2_with fail
                        refine (mkinds_v ⟨XA, xc, XB, xd, XD, xk, xe⟩ m _ S12.out.2.2.2.2.2.2.1 (by rw [HN7.out.2]; omega) (by rw [HM.out]; omega)).mono ?_
                        rintro r1 w13 ⟨A5', c5', rfl, ho, hb⟩
                        have S13 := Lib.hid ((S12.out.call hb).add (fR A5' c5' (m.a ++ m.l)) (own_rd (by simpa using ho) HBAL.out))
                        clear ho hb S12
                        clear x0 x1 x2 x3 x4 x5 x6 x7 x8
                        go_wp2_with fail
                        refine (r7same_v A4 A5' c4 c5' _ _ (m.a ++ m.l) (m.a ++ m.l) true _ S13.out.2.2.1 S13.out.2.1 (by rw [List.length_append, HN7.out.2, HM.out]) (by simp) (by simp)).mono ?_
                        rintro r1 w14 ⟨rfl, hb⟩
                        have S14 := Lib.hid (S13.out.call hb)
                        have e16 : ((na : Int) + M ≤ 16) := by omega
                        clear hb S13
                        go_wp2_with fail
                        go_ret
                        exact ⟨rfl, S14.out.1⟩
end Go.Proofs.YtjdalgejejllgaaDoor
