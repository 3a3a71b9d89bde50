/-
  The walk of MethodTells: for every two heads and all values it returns true; nothing that was there has changed.
-/
import Derived.Test.YtjdalgejejllgaaDoorHfit
import Derived.Test.YtjdalgejejllgaaDoorHkin
import Derived.Test.YtjdalgejejllgaaDoorHtw
import Derived.Test.YtjdalgejejllgaaDoorHrb
import Derived.Test.YtjdalgejejllgaaDoorHi
namespace Go.Proofs.YtjdalgejejllgaaDoor
open Go.RowKit
set_option maxRecDepth 100000
set_option linter.unusedSimpArgs false
set_option linter.unusedVariables false

/-- Rows of the call's own: bytes, values. -/
abbrev fOn (B : Nat) (A : Option Addr) (c n : Nat) (l : List Int) : Fct := ⟨fun w => w.ownsRow B 5 1 (.slice A n c) n (cel l) ∧ Byt l, fun _ _ h hb => ⟨own_below h.1 hb (Nat.le_refl _), h.2⟩⟩
abbrev fOv (B : Nat) (A : Option Addr) (c n : Nat) (L : List Vlu) : Fct := ⟨fun w => w.ownsRow B 42 3 (.slice A n c) n (cev L) ∧ ∀ x ∈ L, VlOk x, fun _ _ h hb => ⟨own_below h.1 hb (Nat.le_refl _), h.2⟩⟩
theorem mZ_ok {m : Mh} (h : Byt m.l) : ∀ x ∈ mZ m, VlOk x := by
  unfold mZ
  split
  · exact ok0_of h
  · intro x hx; cases hx
theorem own3_at {w : World} {base e n c : Nat} {A : Option Addr} {xs : List Value} (h : w.ownsRow base e 3 (.slice A n c) n xs) (hn : 0 < n) : ∃ g, A = some ⟨g, 0, none⟩ ∧ base ≤ g := by
  rcases h.2 with ⟨_, h0⟩ | ⟨g, cap, cur, hv, hg, _⟩
  · omega
  · injection hv with e1 e2 e3
    exact ⟨g, e1, hg⟩
theorem set_len {l : List Value} {n i : Nat} {v : Value} (h : l.length = n) : (l.set i v).length = n := by rw [List.length_set, h]
set_option maxHeartbeats 8000000 in
theorem mtl_walk (x y : Mc) (m k : Mh) (A : Option Addr) (c n : Nat) (X : List Vlu) (w : World) (hx : Hd w x m) (hy : Hd w y k) (hA : Rv w A c X) (hn : X.length = n) (hw : GM w) :
    Calls Tryd.prog 3 #[mv x m, mv y k, .slice A n c] w fun e w' => e = .returned (.bool true) ∧ Below w.heap.size w w' := by
  obtain ⟨v1, hv1⟩ : ∃ v, mM m = v := ⟨_, rfl⟩
  obtain ⟨v2, hv2⟩ : ∃ v, mG m = v := ⟨_, rfl⟩
  obtain ⟨v3, hv3⟩ : ∃ v, mF m X = v := ⟨_, rfl⟩
  obtain ⟨v4, hv4⟩ : ∃ v, mS m k = v := ⟨_, rfl⟩
  have HV1 := Lib.hid hv1
  have HV2 := Lib.hid hv2
  have HV3 := Lib.hid hv3
  have HV4 := Lib.hid hv4
  have HN := Lib.hid hn
  have hlx : n ≤ 9223372036854775807 := by rw [← hn]; exact hA.len
  have HBA := Lib.hid hx.1.byt
  have HBL := Lib.hid hx.2.1.byt
  have HBAL : Hid (Byt (m.a ++ m.l)) := fun y hy => by
    rcases List.mem_append.1 hy with hy | hy
    · exact HBA.out y hy
    · exact HBL.out y hy
  have S0 := Lib.hid (((((((Sx.start w).add fGM hw).add (fH x m) hx).add (fH y k) hy).add (fW A c X) hA).mkM x m).mkM y k)
  rw [size1] at S0
  clear hx hy hA hw hn hv1 hv2 hv3 hv4
  obtain ⟨-, ⟨y0, y1, y2, y3, y4, y5, y6, y7, y8⟩, ⟨x0, x1, x2, x3, x4, x5, x6, x7, x8⟩, -⟩ := S0.out
  go_enter Tryd.func3, Tryd.ntmps3
  go_wp2_with fail
  refine (great_v x m _ S0.out.2.2.2.2.2.1).mono ?_
  rintro r1 w1 ⟨rfl, hb1⟩
  have S1 := Lib.hid (S0.out.call hb1)
  clear hb1 S0
  clear y0 y1 y2 y3 y4 y5 y6 y7 y8 x0 x1 x2 x3 x4 x5 x6 x7 x8
  obtain ⟨-, ⟨y0, y1, y2, y3, y4, y5, y6, y7, y8⟩, ⟨x0, x1, x2, x3, x4, x5, x6, x7, x8⟩, -⟩ := S1.out
  cases g1 : gB m with
  | true =>
    go_wp2_with fail
    go_ret
    exact ⟨rfl, S1.out.1⟩
  | false =>
    go_wp2_with fail
    refine (great_v y k _ S1.out.2.2.2.2.1).mono ?_
    rintro r1 w2 ⟨rfl, hb2⟩
    have S2 := Lib.hid (S1.out.call hb2)
    clear hb2 S1
    clear y0 y1 y2 y3 y4 y5 y6 y7 y8 x0 x1 x2 x3 x4 x5 x6 x7 x8
    obtain ⟨-, ⟨y0, y1, y2, y3, y4, y5, y6, y7, y8⟩, ⟨x0, x1, x2, x3, x4, x5, x6, x7, x8⟩, -⟩ := S2.out
    cases g2 : gB k with
    | true =>
      go_wp2_with fail
      go_ret
      exact ⟨rfl, S2.out.1⟩
    | false =>
      have hgl := gB_no g1
      clear g1 g2
      by_cases hX : 100 < n
      · go_wp2_with fail
        go_ret
        exact ⟨rfl, S2.out.1⟩
      · go_wp2_with fail
        refine (twin_v x m _ S2.out.2.2.2.2.2.1 (by omega) (by omega)).mono ?_
        rintro r1 w3 ⟨A2, c2, B2, d2, rfl, h3, hb3⟩
        have S3 := Lib.hid (((S2.out.call hb3).add (fH ⟨A2, c2, B2, d2, x.D, x.k, x.e⟩ m) h3).mkM ⟨A2, c2, B2, d2, x.D, x.k, x.e⟩ m)
        clear hb3 h3 S2
        clear y0 y1 y2 y3 y4 y5 y6 y7 y8 x0 x1 x2 x3 x4 x5 x6 x7 x8
        go_upto_region 4 with (fail)
        generalize hT7 : w3.heap.size = T7 at S3 ⊢
        have S3' : Hid (Sx w (w3.alloc (.cells #[.slice A2 m.a.length c2, .slice B2 m.l.length d2, .int .u8 m.r, .bool m.q, .int .i64 m.f, .int .i64 m.s, .int .i64 m.h, .slice x.D x.k x.e] 25)) [fM T7 ⟨A2, c2, B2, d2, x.D, x.k, x.e⟩ m, fH ⟨A2, c2, B2, d2, x.D, x.k, x.e⟩ m, fM (w.heap.size + 1) y k, fM w.heap.size x m, fW A c X, fH y k, fH x m, fGM]) := S3
        clear S3
        generalize w3.alloc (.cells #[.slice A2 m.a.length c2, .slice B2 m.l.length d2, .int .u8 m.r, .bool m.q, .int .i64 m.f, .int .i64 m.s, .int .i64 m.h, .slice x.D x.k x.e] 25) = w4 at S3' ⊢
        clear hT7
        obtain ⟨-, -, -, ⟨y0, y1, y2, y3, y4, y5, y6, y7, y8⟩, ⟨x0, x1, x2, x3, x4, x5, x6, x7, x8⟩, -⟩ := S3'.out
        go_wp2_with fail
        refine (r7bytes_v x m _ S3'.out.2.2.2.2.2.2.2.1).mono ?_
        rintro r1 w5 ⟨A4, c4, rfl, ho4, hb4⟩
        have S5 := Lib.hid ((S3'.out.call hb4).add (fR A4 c4 (mL m)) (own_rd ho4 (byt_mL m)))
        clear ho4 hb4 S3'
        clear y0 y1 y2 y3 y4 y5 y6 y7 y8 x0 x1 x2 x3 x4 x5 x6 x7 x8
        go_upto_region 5 with (fail)
        refine wp_region_held_drew (S := fun w' => Hid (Sx w w' [fR A4 c4 (mL m), fM T7 ⟨A2, c2, B2, d2, x.D, x.k, x.e⟩ m, fH ⟨A2, c2, B2, d2, x.D, x.k, x.e⟩ m, fM (w.heap.size + 1) y k, fM w.heap.size x m, fW A c X, fH y k, fH x m, fGM])) (by kernel_rfl) (Hsx.drew S5) (fun hHeld => ?_)
        refine wpAnyH_take (i := 0) (v := ?_) rfl (by kernel_rfl) (by kernel_rfl) (by kernel_rfl) (fun _ _ _ h => h) (Or.inl ⟨by rfl, ?_⟩) (by assumption) ?_
        rotate_left 1
        · intro w hSw; (try dsimp only at hSw); obtain ⟨-, -, ⟨o0, o1, o2, o3, o4, o5, o6, o7, o8⟩, -, ⟨y0, y1, y2, y3, y4, y5, y6, y7, y8⟩, ⟨x0, x1, x2, x3, x4, x5, x6, x7, x8⟩, -⟩ := hSw.out; dsimp only at o1 o2 o8; go_simp; try with_reducible rfl
        try simp only [Act.put, List.getElem_toArray, List.getElem_cons_zero, List.getElem_cons_succ, List.setIfInBounds_toArray, List.set_cons_zero, List.set_cons_succ]
        refine wpAnyH_take (i := 2) (v := ?_) rfl (by kernel_rfl) (by kernel_rfl) (by kernel_rfl) (fun _ _ _ h => h) (Or.inl ⟨by rfl, ?_⟩) (by assumption) ?_
        rotate_left 1
        · intro w hSw; (try dsimp only at hSw); obtain ⟨-, -, ⟨o0, o1, o2, o3, o4, o5, o6, o7, o8⟩, -, ⟨y0, y1, y2, y3, y4, y5, y6, y7, y8⟩, ⟨x0, x1, x2, x3, x4, x5, x6, x7, x8⟩, -⟩ := hSw.out; dsimp only at o1 o2 o8; go_simp; try with_reducible rfl
        try simp only [Act.put, List.getElem_toArray, List.getElem_cons_zero, List.getElem_cons_succ, List.setIfInBounds_toArray, List.set_cons_zero, List.set_cons_succ]
        refine wpAnyH_ready (rs := [1]) (by kernel_rfl) (by simp) ?_
        refine AllReadyH.cons rfl (fun K hK => ?_) AllReadyH.nil
        go_simp
        refine (mmay_v ⟨A2, c2, B2, d2, x.D, x.k, x.e⟩ m v1 _ hHeld.out.2.2.2.1 hHeld.out.2.2.2.2.2.2.2.2.2.1 HV1.out).mono ?_
        rintro r1 wb ⟨rfl, hb⟩
        go_wp2_with fail
        refine hK.out _ _ (Hsx.call hb hHeld) (fun hHeld => ?_)
        clear hK K
        try simp only [Act.put, List.getElem_toArray, List.getElem_cons_zero, List.getElem_cons_succ, List.setIfInBounds_toArray, List.set_cons_zero, List.set_cons_succ]
        refine wpAnyH_ready (rs := [3]) (by kernel_rfl) (by simp) ?_
        refine AllReadyH.cons rfl (fun K hK => ?_) AllReadyH.nil
        go_simp
        refine (r7may_v x m v1 _ hHeld.out.2.2.2.2.2.2.2.2.1 HV1.out).mono ?_
        rintro r1 wb ⟨rfl, hb⟩
        go_wp2_with fail
        refine hK.out _ _ (Hsx.call hb hHeld) (fun hHeld => ?_)
        clear hK K
        try simp only [Act.put, List.getElem_toArray, List.getElem_cons_zero, List.getElem_cons_succ, List.setIfInBounds_toArray, List.set_cons_zero, List.set_cons_succ]
        refine wpAnyH_take (i := 4) (v := ?_) rfl (by kernel_rfl) (by kernel_rfl) (by kernel_rfl) (fun _ _ _ h => h) (Or.inl ⟨by rfl, ?_⟩) (by assumption) ?_
        rotate_left 1
        · intro w _; go_simp; try with_reducible rfl
        try simp only [Act.put, List.getElem_toArray, List.getElem_cons_zero, List.getElem_cons_succ, List.setIfInBounds_toArray, List.set_cons_zero, List.set_cons_succ]
        refine wpAnyH_take (i := 5) (v := ?_) rfl (by kernel_rfl) (by kernel_rfl) (by kernel_rfl) (fun _ _ _ h => h) (Or.inl ⟨by rfl, ?_⟩) (by assumption) ?_
        rotate_left 1
        · intro w _; go_simp; try with_reducible rfl
        try simp only [Act.put, List.getElem_toArray, List.getElem_cons_zero, List.getElem_cons_succ, List.setIfInBounds_toArray, List.set_cons_zero, List.set_cons_succ]
        refine wpAnyH_take (i := 6) (v := ?_) rfl (by kernel_rfl) (by kernel_rfl) (by kernel_rfl) (fun _ _ _ h => h) (Or.inl ⟨by rfl, ?_⟩) (by assumption) ?_
        rotate_left 1
        · intro w hSw; (try dsimp only at hSw); obtain ⟨-, -, ⟨o0, o1, o2, o3, o4, o5, o6, o7, o8⟩, -, ⟨y0, y1, y2, y3, y4, y5, y6, y7, y8⟩, ⟨x0, x1, x2, x3, x4, x5, x6, x7, x8⟩, -⟩ := hSw.out; dsimp only at o1 o2 o8; go_simp; try with_reducible rfl
        try simp only [Act.put, List.getElem_toArray, List.getElem_cons_zero, List.getElem_cons_succ, List.setIfInBounds_toArray, List.set_cons_zero, List.set_cons_succ]
        refine wpAnyH_take (i := 8) (v := ?_) rfl (by kernel_rfl) (by kernel_rfl) (by kernel_rfl) (fun _ _ _ h => h) (Or.inl ⟨by rfl, ?_⟩) (by assumption) ?_
        rotate_left 1
        · intro w hSw; (try dsimp only at hSw); obtain ⟨-, -, ⟨o0, o1, o2, o3, o4, o5, o6, o7, o8⟩, -, ⟨y0, y1, y2, y3, y4, y5, y6, y7, y8⟩, ⟨x0, x1, x2, x3, x4, x5, x6, x7, x8⟩, -⟩ := hSw.out; dsimp only at o1 o2 o8; go_simp; try with_reducible rfl
        try simp only [Act.put, List.getElem_toArray, List.getElem_cons_zero, List.getElem_cons_succ, List.setIfInBounds_toArray, List.set_cons_zero, List.set_cons_succ]
        refine wpAnyH_ready (rs := [7]) (by kernel_rfl) (by simp) ?_
        refine AllReadyH.cons rfl (fun K hK => ?_) AllReadyH.nil
        go_simp
        refine (mmig_v ⟨A2, c2, B2, d2, x.D, x.k, x.e⟩ m v2 _ hHeld.out.2.2.2.1 hHeld.out.2.2.2.2.2.2.2.2.2.1 HV2.out).mono ?_
        rintro r1 wb ⟨rfl, hb⟩
        go_wp2_with fail
        refine hK.out _ _ (Hsx.call hb hHeld) (fun hHeld => ?_)
        clear hK K
        try simp only [Act.put, List.getElem_toArray, List.getElem_cons_zero, List.getElem_cons_succ, List.setIfInBounds_toArray, List.set_cons_zero, List.set_cons_succ]
        refine wpAnyH_ready (rs := [9]) (by kernel_rfl) (by simp) ?_
        refine AllReadyH.cons rfl (fun K hK => ?_) AllReadyH.nil
        go_simp
        refine (r7mig_v x m v2 _ hHeld.out.2.2.2.2.2.2.2.2.1 HV2.out).mono ?_
        rintro r1 wb ⟨rfl, hb⟩
        go_wp2_with fail
        refine hK.out _ _ (Hsx.call hb hHeld) (fun hHeld => ?_)
        clear hK K
        try simp only [Act.put, List.getElem_toArray, List.getElem_cons_zero, List.getElem_cons_succ, List.setIfInBounds_toArray, List.set_cons_zero, List.set_cons_succ]
        refine wpAnyH_take (i := 10) (v := ?_) rfl (by kernel_rfl) (by kernel_rfl) (by kernel_rfl) (fun _ _ _ h => h) (Or.inl ⟨by rfl, ?_⟩) (by assumption) ?_
        rotate_left 1
        · intro w _; go_simp; try with_reducible rfl
        try simp only [Act.put, List.getElem_toArray, List.getElem_cons_zero, List.getElem_cons_succ, List.setIfInBounds_toArray, List.set_cons_zero, List.set_cons_succ]
        refine wpAnyH_take (i := 11) (v := ?_) rfl (by kernel_rfl) (by kernel_rfl) (by kernel_rfl) (fun _ _ _ h => h) (Or.inl ⟨by rfl, ?_⟩) (by assumption) ?_
        rotate_left 1
        · intro w _; go_simp; try with_reducible rfl
        try simp only [Act.put, List.getElem_toArray, List.getElem_cons_zero, List.getElem_cons_succ, List.setIfInBounds_toArray, List.set_cons_zero, List.set_cons_succ]
        refine wpAnyH_take (i := 12) (v := ?_) rfl (by kernel_rfl) (by kernel_rfl) (by kernel_rfl) (fun _ _ _ h => h) (Or.inl ⟨by rfl, ?_⟩) (by assumption) ?_
        rotate_left 1
        · intro w _; go_simp; try with_reducible rfl
        try simp only [Act.put, List.getElem_toArray, List.getElem_cons_zero, List.getElem_cons_succ, List.setIfInBounds_toArray, List.set_cons_zero, List.set_cons_succ]
        refine wpAnyH_take (i := 13) (v := ?_) rfl (by kernel_rfl) (by kernel_rfl) (by kernel_rfl) (fun _ _ _ h => h) (Or.inl ⟨by rfl, ?_⟩) (by assumption) ?_
        rotate_left 1
        · intro w hSw; (try dsimp only at hSw); obtain ⟨-, -, ⟨o0, o1, o2, o3, o4, o5, o6, o7, o8⟩, -, ⟨y0, y1, y2, y3, y4, y5, y6, y7, y8⟩, ⟨x0, x1, x2, x3, x4, x5, x6, x7, x8⟩, -⟩ := hSw.out; dsimp only at o1 o2 o8; go_simp; try with_reducible rfl
        try simp only [Act.put, List.getElem_toArray, List.getElem_cons_zero, List.getElem_cons_succ, List.setIfInBounds_toArray, List.set_cons_zero, List.set_cons_succ]
        refine wpAnyH_take (i := 14) (v := ?_) rfl (by kernel_rfl) (by kernel_rfl) (by kernel_rfl) (fun _ _ _ h => h) (Or.inl ⟨by rfl, ?_⟩) (by assumption) ?_
        rotate_left 1
        · intro w _; go_simp; try with_reducible rfl
        try simp only [Act.put, List.getElem_toArray, List.getElem_cons_zero, List.getElem_cons_succ, List.setIfInBounds_toArray, List.set_cons_zero, List.set_cons_succ]
        refine wpAnyH_take (i := 16) (v := ?_) rfl (by kernel_rfl) (by kernel_rfl) (by kernel_rfl) (fun _ _ _ h => h) (Or.inl ⟨by rfl, ?_⟩) (by assumption) ?_
        rotate_left 1
        · intro w hSw; (try dsimp only at hSw); obtain ⟨-, -, ⟨o0, o1, o2, o3, o4, o5, o6, o7, o8⟩, -, ⟨y0, y1, y2, y3, y4, y5, y6, y7, y8⟩, ⟨x0, x1, x2, x3, x4, x5, x6, x7, x8⟩, -⟩ := hSw.out; dsimp only at o1 o2 o8; go_simp; try with_reducible rfl
        try simp only [Act.put, List.getElem_toArray, List.getElem_cons_zero, List.getElem_cons_succ, List.setIfInBounds_toArray, List.set_cons_zero, List.set_cons_succ]
        refine wpAnyH_take (i := 17) (v := ?_) rfl (by kernel_rfl) (by kernel_rfl) (by kernel_rfl) (fun _ _ _ h => h) (Or.inl ⟨by rfl, ?_⟩) (by assumption) ?_
        rotate_left 1
        · intro w _; go_simp; try with_reducible rfl
        try simp only [Act.put, List.getElem_toArray, List.getElem_cons_zero, List.getElem_cons_succ, List.setIfInBounds_toArray, List.set_cons_zero, List.set_cons_succ]
        refine wpAnyH_ready (rs := [15]) (by kernel_rfl) (by simp) ?_
        refine AllReadyH.cons rfl (fun K hK => ?_) AllReadyH.nil
        go_simp
        refine (mfits_v ⟨A2, c2, B2, d2, x.D, x.k, x.e⟩ m A c n X v3 _ hHeld.out.2.2.2.1 hHeld.out.2.2.2.2.2.2.2.2.2.1 hHeld.out.2.2.2.2.2.2.1 HN.out HV3.out).mono ?_
        rintro r1 wb ⟨rfl, hb⟩
        go_wp2_with fail
        refine hK.out _ _ (Hsx.call hb hHeld) (fun hHeld => ?_)
        clear hK K
        try simp only [Act.put, List.getElem_toArray, List.getElem_cons_zero, List.getElem_cons_succ, List.setIfInBounds_toArray, List.set_cons_zero, List.set_cons_succ]
        refine wpAnyH_ready (rs := [18]) (by kernel_rfl) (by simp) ?_
        refine AllReadyH.cons rfl (fun K hK => ?_) AllReadyH.nil
        go_simp
        refine (r7fits_v x m A c n X v3 _ hHeld.out.2.2.2.2.2.2.2.2.1 hHeld.out.2.2.2.2.2.2.1 HN.out HV3.out).mono ?_
        rintro r1 wb ⟨rfl, hb⟩
        go_wp2_with fail
        refine hK.out _ _ (Hsx.call hb hHeld) (fun hHeld => ?_)
        clear hK K
        try simp only [Act.put, List.getElem_toArray, List.getElem_cons_zero, List.getElem_cons_succ, List.setIfInBounds_toArray, List.set_cons_zero, List.set_cons_succ]
        refine wpAnyH_take (i := 19) (v := ?_) rfl (by kernel_rfl) (by kernel_rfl) (by kernel_rfl) (fun _ _ _ h => h) (Or.inl ⟨by rfl, ?_⟩) (by assumption) ?_
        rotate_left 1
        · intro w _; go_simp; try with_reducible rfl
        try simp only [Act.put, List.getElem_toArray, List.getElem_cons_zero, List.getElem_cons_succ, List.setIfInBounds_toArray, List.set_cons_zero, List.set_cons_succ]
        refine wpAnyH_take (i := 20) (v := ?_) rfl (by kernel_rfl) (by kernel_rfl) (by kernel_rfl) (fun _ _ _ h => h) (Or.inl ⟨by rfl, ?_⟩) (by assumption) ?_
        rotate_left 1
        · intro w _; go_simp; try with_reducible rfl
        try simp only [Act.put, List.getElem_toArray, List.getElem_cons_zero, List.getElem_cons_succ, List.setIfInBounds_toArray, List.set_cons_zero, List.set_cons_succ]
        refine wpAnyH_take (i := 21) (v := ?_) rfl (by kernel_rfl) (by kernel_rfl) (by kernel_rfl) (fun _ _ _ h => h) (Or.inl ⟨by rfl, ?_⟩) (by assumption) ?_
        rotate_left 1
        · intro w _; go_simp; try with_reducible rfl
        try simp only [Act.put, List.getElem_toArray, List.getElem_cons_zero, List.getElem_cons_succ, List.setIfInBounds_toArray, List.set_cons_zero, List.set_cons_succ]
        refine wpAnyH_take (i := 22) (v := ?_) rfl (by kernel_rfl) (by kernel_rfl) (by kernel_rfl) (fun _ _ _ h => h) (Or.inl ⟨by rfl, ?_⟩) (by assumption) ?_
        rotate_left 1
        · intro w hSw; (try dsimp only at hSw); obtain ⟨-, -, ⟨o0, o1, o2, o3, o4, o5, o6, o7, o8⟩, -, ⟨y0, y1, y2, y3, y4, y5, y6, y7, y8⟩, ⟨x0, x1, x2, x3, x4, x5, x6, x7, x8⟩, -⟩ := hSw.out; dsimp only at o1 o2 o8; go_simp; try with_reducible rfl
        try simp only [Act.put, List.getElem_toArray, List.getElem_cons_zero, List.getElem_cons_succ, List.setIfInBounds_toArray, List.set_cons_zero, List.set_cons_succ]
        refine wpAnyH_take (i := 23) (v := ?_) rfl (by kernel_rfl) (by kernel_rfl) (by kernel_rfl) (fun _ _ _ h => h) (Or.inl ⟨by rfl, ?_⟩) (by assumption) ?_
        rotate_left 1
        · intro w hSw; (try dsimp only at hSw); obtain ⟨-, -, ⟨o0, o1, o2, o3, o4, o5, o6, o7, o8⟩, -, ⟨y0, y1, y2, y3, y4, y5, y6, y7, y8⟩, ⟨x0, x1, x2, x3, x4, x5, x6, x7, x8⟩, -⟩ := hSw.out; dsimp only at o1 o2 o8; go_simp; try with_reducible rfl
        try simp only [Act.put, List.getElem_toArray, List.getElem_cons_zero, List.getElem_cons_succ, List.setIfInBounds_toArray, List.set_cons_zero, List.set_cons_succ]
        refine wpAnyH_take (i := 25) (v := ?_) rfl (by kernel_rfl) (by kernel_rfl) (by kernel_rfl) (fun _ _ _ h => h) (Or.inl ⟨by rfl, ?_⟩) (by assumption) ?_
        rotate_left 1
        · intro w hSw; (try dsimp only at hSw); obtain ⟨-, -, ⟨o0, o1, o2, o3, o4, o5, o6, o7, o8⟩, -, ⟨y0, y1, y2, y3, y4, y5, y6, y7, y8⟩, ⟨x0, x1, x2, x3, x4, x5, x6, x7, x8⟩, -⟩ := hSw.out; dsimp only at o1 o2 o8; go_simp; try with_reducible rfl
        try simp only [Act.put, List.getElem_toArray, List.getElem_cons_zero, List.getElem_cons_succ, List.setIfInBounds_toArray, List.set_cons_zero, List.set_cons_succ]
        refine wpAnyH_take (i := 26) (v := ?_) rfl (by kernel_rfl) (by kernel_rfl) (by kernel_rfl) (fun _ _ _ h => h) (Or.inl ⟨by rfl, ?_⟩) (by assumption) ?_
        rotate_left 1
        · intro w hSw; (try dsimp only at hSw); obtain ⟨-, -, ⟨o0, o1, o2, o3, o4, o5, o6, o7, o8⟩, -, ⟨y0, y1, y2, y3, y4, y5, y6, y7, y8⟩, ⟨x0, x1, x2, x3, x4, x5, x6, x7, x8⟩, -⟩ := hSw.out; dsimp only at o1 o2 o8; go_simp; try with_reducible rfl
        try simp only [Act.put, List.getElem_toArray, List.getElem_cons_zero, List.getElem_cons_succ, List.setIfInBounds_toArray, List.set_cons_zero, List.set_cons_succ]
        refine wpAnyH_ready (rs := [24]) (by kernel_rfl) (by simp) ?_
        refine AllReadyH.cons rfl (fun K hK => ?_) AllReadyH.nil
        go_simp
        refine (msame_v ⟨A2, c2, B2, d2, x.D, x.k, x.e⟩ y m k v4 _ hHeld.out.2.2.2.1 hHeld.out.2.2.2.2.2.2.2.1 HV4.out).mono ?_
        rintro r1 wb ⟨rfl, hb⟩
        go_wp2_with fail
        refine hK.out _ _ (Hsx.call hb hHeld) (fun hHeld => ?_)
        clear hK K
        try simp only [Act.put, List.getElem_toArray, List.getElem_cons_zero, List.getElem_cons_succ, List.setIfInBounds_toArray, List.set_cons_zero, List.set_cons_succ]
        refine wpAnyH_ready (rs := [27]) (by kernel_rfl) (by simp) ?_
        refine AllReadyH.cons rfl (fun K hK => ?_) AllReadyH.nil
        go_simp
        refine (r7sam_v x y m k v4 _ hHeld.out.2.2.2.2.2.2.2.2.1 hHeld.out.2.2.2.2.2.2.2.1 HV4.out).mono ?_
        rintro r1 wb ⟨rfl, hb⟩
        go_wp2_with fail
        refine hK.out _ _ (Hsx.call hb hHeld) (fun hHeld => ?_)
        clear hK K
        try simp only [Act.put, List.getElem_toArray, List.getElem_cons_zero, List.getElem_cons_succ, List.setIfInBounds_toArray, List.set_cons_zero, List.set_cons_succ]
        refine wpAnyH_take (i := 28) (v := ?_) rfl (by kernel_rfl) (by kernel_rfl) (by kernel_rfl) (fun _ _ _ h => h) (Or.inl ⟨by rfl, ?_⟩) (by assumption) ?_
        rotate_left 1
        · intro w _; go_simp; try with_reducible rfl
        try simp only [Act.put, List.getElem_toArray, List.getElem_cons_zero, List.getElem_cons_succ, List.setIfInBounds_toArray, List.set_cons_zero, List.set_cons_succ]
        refine wpAnyH_take (i := 29) (v := ?_) rfl (by kernel_rfl) (by kernel_rfl) (by kernel_rfl) (fun _ _ _ h => h) (Or.inl ⟨by rfl, ?_⟩) (by assumption) ?_
        rotate_left 1
        · intro w _; go_simp; try with_reducible rfl
        try simp only [Act.put, List.getElem_toArray, List.getElem_cons_zero, List.getElem_cons_succ, List.setIfInBounds_toArray, List.set_cons_zero, List.set_cons_succ]
        refine wpAnyH_done (by kernel_rfl) ?_ _
        have S6 := hHeld
        clear hHeld S5 HV2 HV3 HV4
        go_wp2_with fail
        go_loopw [10] (fun i wr => ∃ t : Nat, t ≤ 2 ∧ i = .int .i64 t ∧ Hid (Sx w wr [fR A4 c4 (mL m), fM T7 ⟨A2, c2, B2, d2, x.D, x.k, x.e⟩ m, fH ⟨A2, c2, B2, d2, x.D, x.k, x.e⟩ m, fM (w.heap.size + 1) y k, fM w.heap.size x m, fW A c X, fH y k, fH x m, fGM])) (fun i _ => 2 - (intOf i).toNat)
        case atStart => exact ⟨0, by omega, rfl, S6⟩
        case round =>
          obtain ⟨t, ht, rfl, R0⟩ := hrel
          clear S6
          by_cases ht2 : t < 2
          · rename World => wA
            have U0 : Hid (Sx wA wA [fR A4 c4 (mL m), fM T7 ⟨A2, c2, B2, d2, x.D, x.k, x.e⟩ m, fH ⟨A2, c2, B2, d2, x.D, x.k, x.e⟩ m, fM (w.heap.size + 1) y k, fM w.heap.size x m, fW A c X, fH y k, fH x m, fGM]) := Lib.hid ⟨Below.refl _ _, R0.out.2⟩
            obtain ⟨s, hs⟩ : ∃ s, strOfNums (mL m) = s := ⟨_, rfl⟩
            have HS := Lib.hid hs
            clear hs
            obtain ⟨nL, hnL⟩ : ∃ nL, (mL m).length = nL := ⟨_, rfl⟩
            obtain ⟨nZ, hnZ⟩ : ∃ nZ, (mZ m).length = nZ := ⟨_, rfl⟩
            have HNL := Lib.hid hnL
            have HNZ := Lib.hid hnZ
            have hbz2 : nZ ≤ 100 := by
              rw [← hnZ]
              unfold mZ
              split
              · rw [List.length_map]; exact hgl.2
              · simp
            have hbz : nL ≤ 9223372036854775807 := by rw [← hnL]; have := U0.out.2.1.len; exact this
            have PB := Lib.hid (mbytes_v ⟨A2, c2, B2, d2, x.D, x.k, x.e⟩ m _ U0.out.2.2.2.1 U0.out.2.2.2.2.2.2.2.2.2.1)
            rw [hnL] at PB
            have PZ := fun w1 h1 h2 => Lib.hid (mzeros_v ⟨A2, c2, B2, d2, x.D, x.k, x.e⟩ m v1 w1 h1 h2 HV1.out)
            have PY := fun w1 h1 => Lib.hid (r7zeros_v x m v1 w1 h1 HV1.out)
            rw [hnZ] at PZ PY
            clear hnL hnZ
            obtain ⟨-, -, ⟨o0, o1, o2, o3, o4, o5, o6, o7, o8⟩, -⟩ := U0.out
            dsimp only at o1 o2 o8
            go_wp2_with fail
            refine PB.out.mono ?_
            rintro r1 w10 ⟨A6, c6, rfl, ho6, hb6⟩
            have U1 := Lib.hid ((U0.out.call hb6).add (fOn wA.heap.size A6 c6 nL (mL m)) ⟨ho6, byt_mL m⟩)
            have H6 : Hid (∀ g, A6 = some ⟨g, 0, none⟩ → g < w10.heap.size) := fun g e => by subst e; exact (ho6.lt g rfl).2
            have hs10 := hb6.size
            clear ho6 hb6 U0 PB
            clear o0 o1 o2 o3 o4 o5 o6 o7 o8
            obtain ⟨-, -, -, ⟨o0, o1, o2, o3, o4, o5, o6, o7, o8⟩, -⟩ := U1.out
            dsimp only at o1 o2 o8
            go_wp2_with fail
            refine (mkinds_v ⟨A2, c2, B2, d2, x.D, x.k, x.e⟩ m _ U1.out.2.2.2.2.1 (by omega) (by omega)).mono ?_
            rintro r1 w11 ⟨A7, c7, rfl, ho7, hb7⟩
            have U2 := Lib.hid ((U1.out.call hb7).add (fOn w10.heap.size A7 c7 (m.a.length + m.l.length) (m.a ++ m.l)) ⟨ho7, HBAL.out⟩)
            have H7 : Hid (∀ g, A7 = some ⟨g, 0, none⟩ → g < w11.heap.size) := fun g e => by subst e; exact (ho7.lt g rfl).2
            have hs11 := hb7.size
            clear ho7 hb7 U1
            clear o0 o1 o2 o3 o4 o5 o6 o7 o8
            obtain ⟨-, -, -, -, ⟨o0, o1, o2, o3, o4, o5, o6, o7, o8⟩, -⟩ := U2.out
            dsimp only at o1 o2 o8
            go_wp2_with fail
            refine (PZ _ U2.out.2.2.2.2.2.1 U2.out.2.2.2.2.2.2.2.2.2.2.2.1).out.mono ?_
            rintro r1 w12 ⟨A8, c8, rfl, ho8, hb8⟩
            have U3 := Lib.hid ((U2.out.call hb8).add (fOv w11.heap.size A8 c8 nZ (mZ m)) ⟨ho8, mZ_ok HBL.out⟩)
            clear ho8 hb8 U2 PZ
            clear o0 o1 o2 o3 o4 o5 o6 o7 o8
            obtain ⟨-, -, -, -, -, -, -, -, ⟨x0, x1, x2, x3, x4, x5, x6, x7, x8⟩, -⟩ := U3.out
            go_wp2_with fail
            refine (PY _ U3.out.2.2.2.2.2.2.2.2.2.2.2.1).out.mono ?_
            rintro r1 w13 ⟨A9, c9, rfl, ho9, hb9⟩
            have U4 := Lib.hid ((U3.out.call hb9).add (fW A9 c9 (mZ m)) (Rv.of_own ho9 (mZ_ok HBL.out)).1)
            clear ho9 hb9 U3 PY
            clear x0 x1 x2 x3 x4 x5 x6 x7 x8
            have k1 := rd_string (P := Tryd.prog) (own_rd U4.out.2.2.2.2.1.1 U4.out.2.2.2.2.1.2) 22 9 5 Tryd.underlying22 Tryd.underlying5 Tryd.underlying9
            have k2 := rd_string (P := Tryd.prog) U4.out.2.2.2.2.2.1 22 9 5 Tryd.underlying22 Tryd.underlying5 Tryd.underlying9
            rw [HS.out] at k1 k2
            rw [HNL.out] at k1
            obtain ⟨-, -, -, -, -, -, -, -, -, ⟨x0, x1, x2, x3, x4, x5, x6, x7, x8⟩, -⟩ := U4.out
            go_wp2_with fail
            refine (r7kindsof_v x m _ U4.out.2.2.2.2.2.2.2.2.2.2.2.2.1 (by omega) (by omega)).mono ?_
            rintro r1 w14 ⟨A10, c10, rfl, ho10, hb10⟩
            have U5 := Lib.hid ((U4.out.call hb10).add (fR A10 c10 (m.a ++ m.l)) (own_rd ho10 HBAL.out))
            clear ho10 hb10 U4 k1 k2
            clear x0 x1 x2 x3 x4 x5 x6 x7 x8
            go_wp2_with fail
            refine (r7same_v A7 A10 c7 c10 _ _ (m.a ++ m.l) (m.a ++ m.l) true _ (own_rd U5.out.2.2.2.2.1.1 U5.out.2.2.2.2.1.2) U5.out.2.1 (by simp) (by simp) (by simp)).mono ?_
            rintro r1 w15 ⟨rfl, hb15⟩
            have U6 := Lib.hid (U5.out.call hb15)
            clear hb15 U5
            go_wp2_with fail
            refine (r3same_any A8 A9 c8 c9 nZ nZ (mZ m) (mZ m) _ (Rv.of_own U6.out.2.2.2.1.1 U6.out.2.2.2.1.2).1 U6.out.2.2.1 HNZ.out HNZ.out).mono ?_
            rintro r1 w16 ⟨rfl, hb16⟩
            rw [decide_eq_true rfl]
            have U7 := Lib.hid (U6.out.call hb16)
            clear hb16 U6
            obtain ⟨-, -, -, -, -, -, -, ⟨o0, o1, o2, o3, o4, o5, o6, o7, o8⟩, -⟩ := U7.out
            dsimp only at o1 o2 o8
            obtain ⟨x0, x1, x2, x3, x4, x5, x6, x7, x8⟩ := U7.out.2.2.2.2.2.2.2.2.2.2.1
            go_wp2_with fail
            refine (r7sam_v ⟨A2, c2, B2, d2, x.D, x.k, x.e⟩ x m m true _ U7.out.2.2.2.2.2.2.2.2.1 U7.out.2.2.2.2.2.2.2.2.2.2.2.2.2.1 (mS_self m)).mono ?_
            rintro r1 w17 ⟨rfl, hb17⟩
            have U8 := Lib.hid (U7.out.call hb17)
            clear hb17 U7
            clear o0 o1 o2 o3 o4 o5 o6 o7 o8
            clear x0 x1 x2 x3 x4 x5 x6 x7 x8
            have HO6 : Hid (w17.ownsRow wA.heap.size 5 1 (.slice A6 nL c6) nL (cel (mL m)) ∧ Byt (mL m)) := Lib.hid U8.out.2.2.2.2.2.1
            have HO7 : Hid (w17.ownsRow w10.heap.size 5 1 (.slice A7 (m.a.length + m.l.length) c7) (m.a.length + m.l.length) (cel (m.a ++ m.l))) := Lib.hid U8.out.2.2.2.2.1.1
            have HO8 : Hid (w17.ownsRow w11.heap.size 42 3 (.slice A8 nZ c8) nZ (cev (mZ m))) := Lib.hid U8.out.2.2.2.1.1
            have HBW := Lib.hid U8.out.1
            clear U8
            go_wp2_with fail
            go_loopw [18] (fun i wx => ∃ (j : Nat) (l : List Int), j ≤ nL ∧ i = .int .i64 j ∧ Hid (wx.ownsRow wA.heap.size 5 1 (.slice A6 nL c6) nL (cel l) ∧ Byt l) ∧ Hid (wx.ownsRow w10.heap.size 5 1 (.slice A7 (m.a.length + m.l.length) c7) (m.a.length + m.l.length) (cel (m.a ++ m.l))) ∧ Hid (wx.ownsRow w11.heap.size 42 3 (.slice A8 nZ c8) nZ (cev (mZ m))) ∧ Hid (Below wA.heap.size wA wx)) (fun i _ => nL - (intOf i).toNat)
            case atStart => exact ⟨0, mL m, by omega, rfl, HO6, HO7, HO8, HBW⟩
            case round =>
              obtain ⟨j, l, hj, rfl, HI6, HI7, HI8, HIB⟩ := hrel
              clear HO6 HO7 HO8 HBW
              by_cases hlt : j < nL
              · obtain ⟨hown, hbm⟩ := HI6.out
                have hll : l.length = nL := by have := hown.1; rw [length_cel] at this; omega
                obtain ⟨g, rfl, hg⟩ := own_some hown (by omega)
                have hg2 := H6.out g rfl
                have hfz := hown.frozenAt j
                have hcell := hown.cellAt j (by omega)
                obtain ⟨z, hz⟩ : ∃ z, l[j]? = some z := ⟨_, List.getElem?_eq_getElem (by omega)⟩
                have hz' : (cel l)[j]? = some (.int .u8 z) := by simp [cel, hz]
                rw [hz'] at hcell
                have hzb : 0 ≤ z ∧ z < 256 := hbm z (List.mem_of_getElem? hz)
                have hst := hown.stored j (.int .u8 ((z + 1) % 256))
                rw [cel_set] at hst
                have HS2 := Lib.hid hst.1
                have HB2 := Lib.hid (HIB.out.setCell (p := ⟨g, j, none⟩) hg (.int .u8 ((z + 1) % 256)))
                have HY := Lib.hid (byt_set hbm j (x := (z + 1) % 256) (by omega))
                have HI7' := Lib.hid (ownsRow_setCell_below HI7.out (a := ⟨g, j, none⟩) (show g < w10.heap.size by omega) (.int .u8 ((z + 1) % 256)))
                have HI8' := Lib.hid (ownsRow_setCell_below HI8.out (a := ⟨g, j, none⟩) (show g < w11.heap.size by omega) (.int .u8 ((z + 1) % 256)))
                clear hz hz' hst hown hbm HI6 HI7 HI8 HIB hll
                go_wp2_with fail
                go_roundw
                case rel => exact ⟨j + 1, l.set j ((z + 1) % 256), by omega, by go_num, Lib.hid ⟨HS2.out, HY.out⟩, HI7', HI8', HB2⟩
                case measure => simp [intOf]; omega
              · obtain rfl : j = nL := by omega
                clear HI6
                go_wp2_with fail
                go_loopw [19] (fun i wx => ∃ (j : Nat) (xs : List Value), j ≤ m.a.length + m.l.length ∧ i = .int .i64 j ∧ Hid (wx.ownsRow w10.heap.size 5 1 (.slice A7 (m.a.length + m.l.length) c7) (m.a.length + m.l.length) xs) ∧ Hid (wx.ownsRow w11.heap.size 42 3 (.slice A8 nZ c8) nZ (cev (mZ m))) ∧ Hid (Below wA.heap.size wA wx)) (fun i _ => (m.a.length + m.l.length) - (intOf i).toNat)
                case atStart => exact ⟨0, _, by omega, rfl, HI7, HI8, HIB⟩
                case round =>
                  obtain ⟨i2, xs, hj2, rfl, HJ7, HJ8, HJB⟩ := hrel
                  clear HI7 HI8 HIB
                  by_cases hlt2 : i2 < m.a.length + m.l.length
                  · have hown := HJ7.out
                    have hll : xs.length = m.a.length + m.l.length := by have := hown.1; omega
                    obtain ⟨g, rfl, hg⟩ := own_some hown (by omega)
                    have hg2 := H7.out g rfl
                    have hfz := hown.frozenAt i2
                    have hcell := hown.cellAt i2 (by omega)
                    obtain ⟨u0, hu0⟩ : ∃ u0, xs[i2]? = some u0 := ⟨_, List.getElem?_eq_getElem (by omega)⟩
                    rw [hu0] at hcell
                    have HS2 := Lib.hid (hown.stored i2 (.int .u8 77)).1
                    have HB2 := Lib.hid (HJB.out.setCell (p := ⟨g, i2, none⟩) (show wA.heap.size ≤ g by omega) (.int .u8 77))
                    have HJ8' := Lib.hid (ownsRow_setCell_below HJ8.out (a := ⟨g, i2, none⟩) (show g < w11.heap.size by omega) (.int .u8 77))
                    clear hown HJ7 HJ8 HJB hll hu0
                    go_wp2_with fail
                    go_roundw
                    case rel => exact ⟨i2 + 1, _, by omega, by go_num, HS2, HJ8', HB2⟩
                    case measure => simp [intOf]; omega
                  · have hii : i2 = m.a.length + m.l.length := by omega
                    subst i2
                    clear HJ7
                    go_wp2_with fail
                    go_loopw [20] (fun i wx => ∃ (j : Nat) (xs : List Value), j ≤ nZ ∧ i = .int .i64 j ∧ Hid (wx.ownsRow w11.heap.size 42 3 (.slice A8 nZ c8) nZ xs) ∧ Hid (Below wA.heap.size wA wx)) (fun i _ => nZ - (intOf i).toNat)
                    case atStart => exact ⟨0, _, by omega, rfl, HJ8, HJB⟩
                    case round =>
                      obtain ⟨i3, xs, hj3, rfl, HK8, HKB⟩ := hrel
                      clear HJ8 HJB
                      by_cases hlt3 : i3 < nZ
                      · have hown := HK8.out
                        have hll : xs.length = nZ * 3 := hown.1
                        obtain ⟨g, rfl, hg⟩ := own3_at hown (by omega)
                        have hfz := hown.frozenAt (i3 * 3)
                        have hcell := hown.cellAt (i3 * 3) (by omega)
                        obtain ⟨u0, hu0⟩ : ∃ u0, xs[i3 * 3]? = some u0 := ⟨_, List.getElem?_eq_getElem (by omega)⟩
                        rw [hu0] at hcell
                        have HS2 := Lib.hid (hown.stored (i3 * 3) (.int .u8 77)).1
                        have HB2 := Lib.hid (HKB.out.setCell (p := ⟨g, i3 * 3, none⟩) (show wA.heap.size ≤ g by omega) (.int .u8 77))
                        clear hown HK8 HKB hll hu0
                        go_wp2_with fail
                        go_roundw
                        case rel => exact ⟨i3 + 1, _, by omega, by go_num, HS2, HB2⟩
                        case measure => simp [intOf]; omega
                      · have R1 := Lib.hid (R0.out.call HKB.out)
                        clear HK8 HKB
                        go_wp2_with fail
                        go_roundw
                        case rel => exact ⟨t + 1, by omega, by go_num, R1⟩
                        case measure => simp [intOf]; omega
          · obtain rfl : t = 2 := by omega
            go_wp2_with fail
            go_ret
            exact ⟨rfl, R0.out.1⟩
end Go.Proofs.YtjdalgejejllgaaDoor
