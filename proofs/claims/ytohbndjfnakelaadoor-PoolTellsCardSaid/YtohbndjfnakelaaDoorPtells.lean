/-
  The walk of PoolTells over its contracts: for all values it returns true; nothing that was there has changed.
-/
import Derived.Test.YtohbndjfnakelaaDoorPonce
namespace Go.Proofs.YtohbndjfnakelaaDoor
open Go.RowKit
set_option maxRecDepth 100000
set_option linter.unusedSimpArgs false
set_option linter.unusedVariables false

theorem adP_ok {L : List Vlu} {x : Vlu} (h : ∀ y ∈ L, VlOk y) (hx : VlOk x) : ∀ y ∈ (adP L x).1, VlOk y := by
  have h2 : ∀ y ∈ L ++ [x], VlOk y := fun y hy => by
    rcases List.mem_append.1 hy with hy | hy
    · exact h y hy
    · rw [List.mem_singleton.1 hy]; exact hx
  unfold adP
  split
  · split
    · exact h
    · split
      · exact h2
      · exact fun y hy => (by cases hy)
  · exact fun y hy => (by cases hy)
theorem own3_some {w : World} {base e n c : Nat} {A : Option Addr} {xs : List Value} (h : w.ownsRow base e 3 (.slice A n c) n xs) (hn : 0 < n) : ∃ g, A = some ⟨g, 0, none⟩ ∧ base ≤ g := by
  rcases h.2 with ⟨_, h0⟩ | ⟨g, cap, cur, hv, hg, _⟩
  · omega
  · injection hv with e1 e2 e3
    exact ⟨g, e1, hg⟩
theorem Rv.other {w : World} {g c : Nat} {L : List Vlu} (h : Rv w (some ⟨g, 0, none⟩) c L) {p : Addr} (hp : p.block ≠ g) (v : Value) : Rv (w.setCell p v) (some ⟨g, 0, none⟩) c L := by
  refine ⟨h.1, h.2.1, h.2.2.1, ?_⟩
  rcases h.2.2.2 with hn | ⟨ad, ha, hc⟩
  · exact .inl hn
  · injection ha with ha
    subst ha
    have hb : ∀ q : Addr, q.block = g → (w.setCell p v).cell? q = w.cell? q := fun q hq => by
      unfold World.cell?
      rw [Below.heap_setCell w p v q.block (by omega)]
    have hk : ∀ k, ((⟨g, 0, none⟩ : Addr).add k).block = g := fun k => by unfold Addr.add; split <;> rfl
    refine .inr ⟨_, rfl, fun i x hx => ?_⟩
    obtain ⟨h1, h2, h3⟩ := hc i x hx
    exact ⟨(hb _ (hk (i * 3))).trans h1, (hb ⟨((⟨g, 0, none⟩ : Addr).add (i * 3)).block, ((⟨g, 0, none⟩ : Addr).add (i * 3)).off + 1, none⟩ (hk (i * 3))).trans h2, (hb ⟨((⟨g, 0, none⟩ : Addr).add (i * 3)).block, ((⟨g, 0, none⟩ : Addr).add (i * 3)).off + 2, none⟩ (hk (i * 3))).trans h3⟩
theorem add_from0 (g n : Nat) : (⟨g, 0, none⟩ : Addr).add n = ⟨g, n, none⟩ := by
  unfold Addr.add
  split
  · subst_vars; rfl
  · simp
theorem cev_set0 {K : List Vlu} {y : Int} : ∀ {i : Nat} {x : Vlu}, K[i]? = some x → (cev K).set (i * 3) (.int .u8 y) = cev (K.set i (y, x.2)) := by
  induction K with
  | nil => intro i x h; simp at h
  | cons z K ih =>
    intro i x h
    cases i with
    | zero =>
      simp at h
      subst h
      show (cev (z :: K)).set 0 (.int .u8 y) = cev ((y, z.2) :: K)
      rw [cev_cons, List.set_cons_zero, cev_cons]
    | succ i =>
      rw [cev_cons, List.set_cons_succ, cev_cons, show (i + 1) * 3 = i * 3 + 1 + 1 + 1 by omega, List.set_cons_succ, List.set_cons_succ, List.set_cons_succ, ih (by simpa using h)]
set_option maxHeartbeats 8000000 in
theorem ptells_walk (F : Fct) (KM : KPMay F) (KF : KPFind F) (KB : KPBytes F) (KA : KPAdd F) (A : Option Addr) (c n : Nat) (L : List Vlu) (k a b : Int) (w : World) (hw : F.p w) (hr : Rv w A c L) (hn : L.length = n) (hx : VlOk (k, a, b)) :
    Calls Tryd.prog 3 #[.slice A n c, .agg #[.int .u8 k, .int .i64 a, .int .i64 b]] w fun e w' => e = .returned (.bool true) ∧ Below w.heap.size w w' := by
  subst hn
  have hlen := hr.len
  by_cases hl : L.length ≤ 1000
  · have HOL := Lib.hid hr.1
    have P1 := fun A c w hr => Lib.hid (r6bytes_v A c L.length L w hr rfl)
    have P2 := fun A c w hr => Lib.hid (r6add_v A c L.length L k a b w hr rfl hx)
    have P3 := fun A c w hr => Lib.hid (r6may_any A c L.length L w hr rfl)
    have P4 := fun A c w hw hr => Lib.hid (KM A c L.length L w hw hr rfl (by omega))
    have P5 := fun A c w hr => Lib.hid (r6find_any A c L.length L k a b w hr rfl)
    have P6 := fun A c w hw hr => Lib.hid (KF A c L.length L k a b w hw hr rfl (by omega) hx)
    have P7 := fun A c w hw hr => Lib.hid (KB A c L.length L w hw hr rfl (by omega))
    have P8 := fun A c w hw hr => Lib.hid (KA A c L.length L k a b w hw hr rfl (by omega) hx)
    have hBt := poL_byt L
    have hBl := poL_len L
    have hKok := adP_ok hr.1 hx
    generalize poL L = Bt at *
    generalize poE L = e0 at *
    generalize poM L = v at *
    generalize fdI L (k, a, b) = fi at *
    generalize adP L (k, a, b) = R at *
    obtain ⟨K, at0, g0⟩ := R
    simp only at P2 P8 hKok
    obtain ⟨s, hs⟩ : ∃ s, strOfNums Bt = s := ⟨_, rfl⟩
    have HS := Lib.hid hs
    have HBt := Lib.hid hBt
    have HKok := Lib.hid hKok
    have S0 := Lib.hid ((((Sx.start w).add F hw).mkV k a b).add (fW A c L) (hr.keep new1))
    clear hs hBt hKok hw hr hx
    go_enter Tryd.func3, Tryd.ntmps3
    go_wp2_with fail
    generalize w.alloc (.cells #[.int .u8 k, .int .i64 a, .int .i64 b] 24) = w0 at S0 ⊢
    generalize hbk : w.heap.size = B0 at S0 ⊢
    refine (r3copy_any A c _ L _ S0.out.2.1 rfl (by omega)).mono ?_
    rintro e w1 ⟨A2, c2, rfl, ho1, hb1⟩
    have S1 := Lib.hid ((S0.out.call hb1).add (fW A2 c2 L) (Rv.of_own ho1 HOL.out).1)
    clear S0 ho1 hb1
    go_wp2_with fail
    refine (P1 A c _ S1.out.2.2.1).out.mono ?_
    rintro e w2 ⟨A3, c3, rfl, ho2, hb2⟩
    have S2 := Lib.hid ((S1.out.call hb2).add (fR A3 c3 Bt) (own_rd ho2 HBt.out))
    clear S1 ho2 hb2
    obtain ⟨-, -, -, -, ⟨z0, z1, z2, z3, -⟩, -⟩ := id S2.out
    go_wp2_with fail
    refine (P2 A c _ S2.out.2.2.2.1).out.mono ?_
    rintro e w3 ⟨A4, c4, rfl, ho3, hb3⟩
    have h4 := (Rv.of_own ho3 HKok.out).1
    have hKl := h4.len
    have T2 := Lib.hid (S2.out.call hb3)
    have S3 : Hid (Sx w w3 [fR A3 c3 Bt, fW A4 c4 K, fW A2 c2 L, fW A c L, fV B0 k a b, F]) := Lib.hid ⟨T2.out.1, T2.out.2.1, h4, T2.out.2.2⟩
    clear S2 T2 ho3 hb3 h4 z0 z1 z2 z3 P1 P2
    go_upto_region 6 with (fail)
    refine wp_region_held_drew (S := fun w' => Hid (Sx w w' [fR A3 c3 Bt, fW A4 c4 K, fW A2 c2 L, fW A c L, fV B0 k a b, F])) (by kernel_rfl) (Hsx.drew S3) (fun hHeld => ?_)
    refine wpAnyH_take (i := 0) (v := ?_) rfl (by kernel_rfl) (by kernel_rfl) (by kernel_rfl) (fun _ _ _ h => h) (Or.inl ⟨by rfl, ?_⟩) (by assumption) ?_
    rotate_left 1
    · intro w _; go_simp; try with_reducible rfl
    try simp only [Act.put, List.getElem_toArray, List.getElem_cons_zero, List.getElem_cons_succ, List.setIfInBounds_toArray, List.set_cons_zero, List.set_cons_succ]
    refine wpAnyH_take (i := 2) (v := ?_) rfl (by kernel_rfl) (by kernel_rfl) (by kernel_rfl) (fun _ _ _ h => h) (Or.inl ⟨by rfl, ?_⟩) (by assumption) ?_
    rotate_left 1
    · intro w _; go_simp; try with_reducible rfl
    try simp only [Act.put, List.getElem_toArray, List.getElem_cons_zero, List.getElem_cons_succ, List.setIfInBounds_toArray, List.set_cons_zero, List.set_cons_succ]
    refine wpAnyH_ready (rs := [1]) (by kernel_rfl) (by simp) ?_
    refine AllReadyH.cons rfl (fun K hK => ?_) AllReadyH.nil
    go_simp
    refine (P4 A2 c2 _ hHeld.out.2.2.2.2.2.2.1 hHeld.out.2.2.2.1).out.mono ?_
    rintro e wb ⟨rfl, hb⟩
    go_wp2_with fail
    refine hK.out _ _ (Lib.hid (hHeld.out.call hb)) (fun hHeld => ?_)
    clear hK K
    try simp only [Act.put, List.getElem_toArray, List.getElem_cons_zero, List.getElem_cons_succ, List.setIfInBounds_toArray, List.set_cons_zero, List.set_cons_succ]
    refine wpAnyH_ready (rs := [3]) (by kernel_rfl) (by simp) ?_
    refine AllReadyH.cons rfl (fun K hK => ?_) AllReadyH.nil
    go_simp
    refine (P3 A c _ hHeld.out.2.2.2.2.1).out.mono ?_
    rintro e wc ⟨rfl, hb⟩
    go_wp2_with fail
    refine hK.out _ _ (Lib.hid (hHeld.out.call hb)) (fun hHeld => ?_)
    clear hK K
    try simp only [Act.put, List.getElem_toArray, List.getElem_cons_zero, List.getElem_cons_succ, List.setIfInBounds_toArray, List.set_cons_zero, List.set_cons_succ]
    refine wpAnyH_take (i := 4) (v := ?_) rfl (by kernel_rfl) (by kernel_rfl) (by kernel_rfl) (fun _ _ _ h => h) (Or.inl ⟨by rfl, ?_⟩) (by assumption) ?_
    rotate_left 1
    · intro w _; go_simp; try with_reducible rfl
    try simp only [Act.put, List.getElem_toArray, List.getElem_cons_zero, List.getElem_cons_succ, List.setIfInBounds_toArray, List.set_cons_zero, List.set_cons_succ]
    refine wpAnyH_take (i := 5) (v := ?_) rfl (by kernel_rfl) (by kernel_rfl) (by kernel_rfl) (fun _ _ _ h => h) (Or.inl ⟨by rfl, ?_⟩) (by assumption) ?_
    rotate_left 1
    · intro w _; go_simp; try with_reducible rfl
    try simp only [Act.put, List.getElem_toArray, List.getElem_cons_zero, List.getElem_cons_succ, List.setIfInBounds_toArray, List.set_cons_zero, List.set_cons_succ]
    refine wpAnyH_take (i := 6) (v := ?_) rfl (by kernel_rfl) (by kernel_rfl) (by kernel_rfl) (fun _ _ _ h => h) (Or.inl ⟨by rfl, ?_⟩) (by assumption) ?_
    rotate_left 1
    · intro w _; go_simp; try with_reducible rfl
    try simp only [Act.put, List.getElem_toArray, List.getElem_cons_zero, List.getElem_cons_succ, List.setIfInBounds_toArray, List.set_cons_zero, List.set_cons_succ]
    refine wpAnyH_take (i := 7) (v := ?_) rfl (by kernel_rfl) (by kernel_rfl) (by kernel_rfl) (fun _ _ _ h => h) (Or.inl ⟨by rfl, ?_⟩) (by assumption) ?_
    rotate_left 1
    · intro w hSw; (try dsimp only at hSw); obtain ⟨-, s1, s2, s3, -⟩ := hSw.out.2.2.2.2.2.1; clear hSw; go_simp; try with_reducible rfl
    try simp only [Act.put, List.getElem_toArray, List.getElem_cons_zero, List.getElem_cons_succ, List.setIfInBounds_toArray, List.set_cons_zero, List.set_cons_succ]
    refine wpAnyH_take (i := 9) (v := ?_) rfl (by kernel_rfl) (by kernel_rfl) (by kernel_rfl) (fun _ _ _ h => h) (Or.inl ⟨by rfl, ?_⟩) (by assumption) ?_
    rotate_left 1
    · intro w _; go_simp; try with_reducible rfl
    try simp only [Act.put, List.getElem_toArray, List.getElem_cons_zero, List.getElem_cons_succ, List.setIfInBounds_toArray, List.set_cons_zero, List.set_cons_succ]
    refine wpAnyH_take (i := 10) (v := ?_) rfl (by kernel_rfl) (by kernel_rfl) (by kernel_rfl) (fun _ _ _ h => h) (Or.inl ⟨by rfl, ?_⟩) (by assumption) ?_
    rotate_left 1
    · intro w hSw; (try dsimp only at hSw); obtain ⟨-, s1, s2, s3, -⟩ := hSw.out.2.2.2.2.2.1; clear hSw; go_simp; try with_reducible rfl
    try simp only [Act.put, List.getElem_toArray, List.getElem_cons_zero, List.getElem_cons_succ, List.setIfInBounds_toArray, List.set_cons_zero, List.set_cons_succ]
    refine wpAnyH_ready (rs := [8]) (by kernel_rfl) (by simp) ?_
    refine AllReadyH.cons rfl (fun K hK => ?_) AllReadyH.nil
    go_simp
    refine (P6 A2 c2 _ hHeld.out.2.2.2.2.2.2.1 hHeld.out.2.2.2.1).out.mono ?_
    rintro e wd ⟨rfl, hb⟩
    go_wp2_with fail
    refine hK.out _ _ (Lib.hid (hHeld.out.call hb)) (fun hHeld => ?_)
    clear hK K
    try simp only [Act.put, List.getElem_toArray, List.getElem_cons_zero, List.getElem_cons_succ, List.setIfInBounds_toArray, List.set_cons_zero, List.set_cons_succ]
    refine wpAnyH_ready (rs := [11]) (by kernel_rfl) (by simp) ?_
    refine AllReadyH.cons rfl (fun K hK => ?_) AllReadyH.nil
    go_simp
    refine (P5 A c _ hHeld.out.2.2.2.2.1).out.mono ?_
    rintro e we ⟨rfl, hb⟩
    go_wp2_with fail
    refine hK.out _ _ (Lib.hid (hHeld.out.call hb)) (fun hHeld => ?_)
    clear hK K
    try simp only [Act.put, List.getElem_toArray, List.getElem_cons_zero, List.getElem_cons_succ, List.setIfInBounds_toArray, List.set_cons_zero, List.set_cons_succ]
    refine wpAnyH_take (i := 12) (v := ?_) rfl (by kernel_rfl) (by kernel_rfl) (by kernel_rfl) (fun _ _ _ h => h) (Or.inl ⟨by rfl, ?_⟩) (by assumption) ?_
    rotate_left 1
    · intro w _; go_simp; try with_reducible rfl
    try simp only [Act.put, List.getElem_toArray, List.getElem_cons_zero, List.getElem_cons_succ, List.setIfInBounds_toArray, List.set_cons_zero, List.set_cons_succ]
    refine wpAnyH_take (i := 13) (v := ?_) rfl (by kernel_rfl) (by kernel_rfl) (by kernel_rfl) (fun _ _ _ h => h) (Or.inl ⟨by rfl, ?_⟩) (by assumption) ?_
    rotate_left 1
    · intro w _; go_simp; try with_reducible rfl
    try simp only [Act.put, List.getElem_toArray, List.getElem_cons_zero, List.getElem_cons_succ, List.setIfInBounds_toArray, List.set_cons_zero, List.set_cons_succ]
    refine wpAnyH_done (by kernel_rfl) ?_ _
    have S4 := hHeld
    clear hHeld S3 P3 P4 P5 P6
    go_wp2_with fail
    go_loopw [11, 12, 13, 14, 15, 16, 17, 18, 19] (fun i _ _ _ _ _ _ _ _ wr => ∃ t : Nat, t ≤ 2 ∧ i = .int .i64 t ∧ Hid (Sx w wr [fR A3 c3 Bt, fW A4 c4 K, fW A2 c2 L, fW A c L, fV B0 k a b, F])) (fun i _ _ _ _ _ _ _ _ _ => 2 - (intOf i).toNat)
    case atStart => exact ⟨0, by omega, rfl, S4⟩
    case round =>
      obtain ⟨t, ht, rfl, T0⟩ := hrel
      rename World => wA
      clear S4
      by_cases ht2 : t < 2
      · go_wp2_with fail
        refine (P7 A2 c2 _ T0.out.2.2.2.2.2.2.1 T0.out.2.2.2.1).out.mono ?_
        rintro e w11 ⟨A5, c5, rfl, ho5, hb5⟩
        have T1 := Lib.hid (T0.out.call hb5)
        have O11 := Lib.hid ho5
        have B11 := Lib.hid hb5
        have H5 : Hid (∀ g, A5 = some ⟨g, 0, none⟩ → g < w11.heap.size) := fun g e => by subst e; exact (ho5.lt g rfl).2
        clear ho5 hb5
        go_wp2_with fail
        refine (r3copy_any A c L.length L _ T1.out.2.2.2.2.1 rfl (by omega)).mono ?_
        rintro e w12 ⟨A6, c6, rfl, ho6, hb6⟩
        have O6 := Lib.hid (own_below ho6 (new1 (a := .cells #[.int .u8 77, .int .i64 0, .int .i64 0] 24)) (Nat.le_refl _))
        have B12 := Lib.hid (hb6.alloc hb6.size (.cells #[.int .u8 77, .int .i64 0, .int .i64 0] 24))
        have R6 := Lib.hid (rv_new w12 (77, 0, 0) (by unfold VlOk; decide))
        clear ho6 hb6
        go_wp2_with (at_builtin; refine wpList_append_rv _ rfl _ _ rfl w11.heap.size _ L.length L rfl O6.out _ 1 1 [(77, 0, 0)] rfl R6.out rfl (by omega) B12.out.size ?_)
        intro A7 c7 w13 ho7 hb7
        have hok7 : ∀ x ∈ L ++ [((77, 0, 0) : Vlu)], VlOk x := by
          intro u hu
          rcases List.mem_append.1 hu with hu | hu
          · exact HOL.out u hu
          · rw [List.mem_singleton.1 hu]; unfold VlOk; decide
        obtain ⟨gr, rfl, hgr⟩ := own3_some ho7 (by omega)
        have hgr2 := (ho7.lt gr rfl).2
        have R7 := Lib.hid (Rv.of_own ho7 hok7).1
        have B13 := Lib.hid (B12.out.trans hb7)
        have T3 := Lib.hid (T1.out.call B13.out)
        have O5 := Lib.hid (own_below O11.out B13.out (Nat.le_refl _))
        have hsz := B11.out.size
        have BA3 := Lib.hid (B11.out.trans (B13.out.mono hsz))
        have h13 := B13.out.size
        have O5h : wA.heap.size ≤ wA.heap.size := Nat.le_refl _
        have hsc := R7.out.le
        have hsc2 : L.length ≤ c7 := by rw [List.length_append] at hsc; omega
        have hsc3 := R7.out.2.2.1
        have HRL : ∀ w', Below w13.heap.size w13 w' → Hid (Rv w' (some ⟨gr, 0, none⟩) c7 L) := fun w' hb => by
          have := Rv.take (R7.out.keep hb) L.length
          rwa [List.take_left] at this
        clear ho7 hb7 hok7 O6 B12 R6 T1 O11 B11 B13
        go_upto_region 13 with (fail)
        refine wp_region_held_drew (S := fun w' => Hid (Below w13.heap.size w13 w')) (by kernel_rfl) (Lib.hid (below_draws (Below.refl _ _) 1)) (fun hHeld => ?_)
        refine wpAnyH_take (i := 0) (v := ?_) rfl (by kernel_rfl) (by kernel_rfl) (by kernel_rfl) (fun _ _ _ h => h) (Or.inl ⟨by rfl, ?_⟩) (by assumption) ?_
        rotate_left 1
        · intro w _; go_simp; try with_reducible rfl
        try simp only [Act.put, List.getElem_toArray, List.getElem_cons_zero, List.getElem_cons_succ, List.setIfInBounds_toArray, List.set_cons_zero, List.set_cons_succ]
        refine wpAnyH_take (i := 1) (v := ?_) rfl (by kernel_rfl) (by kernel_rfl) (by kernel_rfl) (fun _ _ _ h => h) (Or.inl ⟨by rfl, ?_⟩) (by assumption) ?_
        rotate_left 1
        · intro w _; go_simp; try with_reducible rfl
        try simp only [Act.put, List.getElem_toArray, List.getElem_cons_zero, List.getElem_cons_succ, List.setIfInBounds_toArray, List.set_cons_zero, List.set_cons_succ]
        refine wpAnyH_take (i := 2) (v := ?_) rfl (by kernel_rfl) (by kernel_rfl) (by kernel_rfl) (fun _ _ _ h => h) (Or.inl ⟨by rfl, ?_⟩) (by assumption) ?_
        rotate_left 1
        · intro w _; go_simp; try with_reducible rfl
        try simp only [Act.put, List.getElem_toArray, List.getElem_cons_zero, List.getElem_cons_succ, List.setIfInBounds_toArray, List.set_cons_zero, List.set_cons_succ]
        refine wpAnyH_take (i := 3) (v := ?_) rfl (by kernel_rfl) (by kernel_rfl) (by kernel_rfl) (fun _ _ _ h => h) (Or.inl ⟨by rfl, ?_⟩) (by assumption) ?_
        rotate_left 1
        · intro w _; go_simp; try with_reducible rfl
        try simp only [Act.put, List.getElem_toArray, List.getElem_cons_zero, List.getElem_cons_succ, List.setIfInBounds_toArray, List.set_cons_zero, List.set_cons_succ]
        refine wpAnyH_take (i := 4) (v := ?_) rfl (by kernel_rfl) (by kernel_rfl) (by kernel_rfl) (fun _ _ _ h => h) (Or.inl ⟨by rfl, ?_⟩) (by assumption) ?_
        rotate_left 1
        · intro w hSw; (try dsimp only at hSw); obtain ⟨-, s1, s2, s3, -⟩ := (T3.out.call hSw.out).2.2.2.2.2.1; clear hSw; go_simp; try with_reducible rfl
        try simp only [Act.put, List.getElem_toArray, List.getElem_cons_zero, List.getElem_cons_succ, List.setIfInBounds_toArray, List.set_cons_zero, List.set_cons_succ]
        refine wpAnyH_ready (rs := [5]) (by kernel_rfl) (by simp) ?_
        refine AllReadyH.cons rfl (fun K hK => ?_) AllReadyH.nil
        go_simp
        refine (P8 (some ⟨gr, 0, none⟩) c7 _ (T3.out.call hHeld.out).2.2.2.2.2.2.1 (HRL _ hHeld.out).out).out.mono ?_
        rintro e wb ⟨A8, c8, rfl, ho8, hb⟩
        have O8 := Lib.hid (own_base ho8 hHeld.out.size)
        clear ho8
        go_wp2_with fail
        refine hK.out _ _ (Lib.hid (below_on hHeld.out hb)) (fun hHeld => ?_)
        clear hK K
        try simp only [Act.put, List.getElem_toArray, List.getElem_cons_zero, List.getElem_cons_succ, List.setIfInBounds_toArray, List.set_cons_zero, List.set_cons_succ]
        refine wpAnyH_take (i := 6) (v := ?_) rfl (by kernel_rfl) (by kernel_rfl) (by kernel_rfl) (fun _ _ _ h => h) (Or.inl ⟨by rfl, ?_⟩) (by assumption) ?_
        rotate_left 1
        · intro w _; go_simp; try with_reducible rfl
        try simp only [Act.put, List.getElem_toArray, List.getElem_cons_zero, List.getElem_cons_succ, List.setIfInBounds_toArray, List.set_cons_zero, List.set_cons_succ]
        refine wpAnyH_take (i := 7) (v := ?_) rfl (by kernel_rfl) (by kernel_rfl) (by kernel_rfl) (fun _ _ _ h => h) (Or.inl ⟨by rfl, ?_⟩) (by assumption) ?_
        rotate_left 1
        · intro w _; go_simp; try with_reducible rfl
        try simp only [Act.put, List.getElem_toArray, List.getElem_cons_zero, List.getElem_cons_succ, List.setIfInBounds_toArray, List.set_cons_zero, List.set_cons_succ]
        refine wpAnyH_take (i := 8) (v := ?_) rfl (by kernel_rfl) (by kernel_rfl) (by kernel_rfl) (fun _ _ _ h => h) (Or.inl ⟨by rfl, ?_⟩) (by assumption) ?_
        rotate_left 1
        · intro w _; go_simp; try with_reducible rfl
        try simp only [Act.put, List.getElem_toArray, List.getElem_cons_zero, List.getElem_cons_succ, List.setIfInBounds_toArray, List.set_cons_zero, List.set_cons_succ]
        refine wpAnyH_take (i := 9) (v := ?_) rfl (by kernel_rfl) (by kernel_rfl) (by kernel_rfl) (fun _ _ _ h => h) (Or.inl ⟨by rfl, ?_⟩) (by assumption) ?_
        rotate_left 1
        · intro w _; go_simp; try with_reducible rfl
        try simp only [Act.put, List.getElem_toArray, List.getElem_cons_zero, List.getElem_cons_succ, List.setIfInBounds_toArray, List.set_cons_zero, List.set_cons_succ]
        refine wpAnyH_take (i := 10) (v := ?_) rfl (by kernel_rfl) (by kernel_rfl) (by kernel_rfl) (fun _ _ _ h => h) (Or.inl ⟨by rfl, ?_⟩) (by assumption) ?_
        rotate_left 1
        · intro w _; go_simp; try with_reducible rfl
        try simp only [Act.put, List.getElem_toArray, List.getElem_cons_zero, List.getElem_cons_succ, List.setIfInBounds_toArray, List.set_cons_zero, List.set_cons_succ]
        refine wpAnyH_take (i := 11) (v := ?_) rfl (by kernel_rfl) (by kernel_rfl) (by kernel_rfl) (fun _ _ _ h => h) (Or.inl ⟨by rfl, ?_⟩) (by assumption) ?_
        rotate_left 1
        · intro w _; go_simp; try with_reducible rfl
        try simp only [Act.put, List.getElem_toArray, List.getElem_cons_zero, List.getElem_cons_succ, List.setIfInBounds_toArray, List.set_cons_zero, List.set_cons_succ]
        refine wpAnyH_take (i := 12) (v := ?_) rfl (by kernel_rfl) (by kernel_rfl) (by kernel_rfl) (fun _ _ _ h => h) (Or.inl ⟨by rfl, ?_⟩) (by assumption) ?_
        rotate_left 1
        · intro w _; go_simp; try with_reducible rfl
        try simp only [Act.put, List.getElem_toArray, List.getElem_cons_zero, List.getElem_cons_succ, List.setIfInBounds_toArray, List.set_cons_zero, List.set_cons_succ]
        refine wpAnyH_done (by kernel_rfl) ?_ _
        have BR := hHeld
        clear hHeld
        have T4 := Lib.hid (T3.out.call BR.out)
        have O5b := Lib.hid (own_below O5.out BR.out O5h)
        have k1 := rd_string (P := Tryd.prog) (own_rd O5b.out HBt.out) 26 9 5 Tryd.underlying26 Tryd.underlying5 Tryd.underlying9
        have k2 := rd_string (P := Tryd.prog) T4.out.2.1 26 9 5 Tryd.underlying26 Tryd.underlying5 Tryd.underlying9
        rw [HS.out] at k1 k2
        have R8 := Lib.hid (Rv.of_own O8.out HKok.out).1
        go_wp2_with fail
        clear k1 k2
        refine (r3same_any A8 A4 c8 c4 _ _ K K _ R8.out T4.out.2.2.1 rfl rfl).mono ?_
        rintro e w15 ⟨rfl, hb15⟩
        rw [decide_eq_true rfl]
        have B15 := Lib.hid (below_on BR.out hb15)
        have T5 := Lib.hid (T4.out.call hb15)
        have O8b := Lib.hid (own_below O8.out hb15 (Nat.le_refl _))
        clear T4 hb15 R8 BR O8 O5b
        go_wp2_with fail
        refine (r3same_any A2 A c2 c _ _ L L _ T5.out.2.2.2.1 T5.out.2.2.2.2.1 rfl rfl).mono ?_
        rintro e w16 ⟨rfl, hb16⟩
        rw [decide_eq_true rfl]
        have B16 := Lib.hid (below_on B15.out hb16)
        have T6 := Lib.hid (T5.out.call hb16)
        have O8c := Lib.hid (own_below O8b.out hb16 (Nat.le_refl _))
        have O5c := Lib.hid (own_below O5.out B16.out O5h)
        have RR := Lib.hid (R7.out.keep B16.out)
        have BA := Lib.hid (BA3.out.trans (B16.out.mono BA3.out.size))
        clear T5 hb16 O8b B15 B16
        obtain ⟨hcr, -, -⟩ := Rv.atx (i := L.length) (k := 77) (a := 0) (b := 0) RR.out (by simp)
        rw [add_from0] at hcr
        go_wp2_with fail
        go_loopw [18] (fun i wx => ∃ (j : Nat) (m : List Int), j ≤ Bt.length ∧ i = .int .i64 j ∧ Hid (Byt m ∧ m.length = Bt.length ∧ wx.ownsRow wA.heap.size 5 1 (.slice A5 Bt.length c5) Bt.length (cel m)) ∧ Hid (wx.ownsRow w13.heap.size 24 3 (.slice A8 K.length c8) K.length (cev K)) ∧ Hid (Rv wx (some ⟨gr, 0, none⟩) c7 (L ++ [(77, 0, 0)])) ∧ Hid (Below wA.heap.size wA wx)) (fun i _ => Bt.length - (intOf i).toNat)
        case atStart => exact ⟨0, Bt, by omega, rfl, Lib.hid ⟨HBt.out, rfl, O5c.out⟩, O8c, RR, BA⟩
        case round =>
          obtain ⟨j, m, hj, rfl, HI, HO8, HRR, BI⟩ := hrel
          clear O5c O8c RR BA hcr
          by_cases hlt : j < Bt.length
          · obtain ⟨hbm, hm, hown⟩ := HI.out
            obtain ⟨g, rfl, hg⟩ := own_some hown (by omega)
            have hg2 := H5.out g rfl
            have hfz := hown.frozenAt j
            have hcell := hown.cellAt j (by omega)
            obtain ⟨x, hx⟩ : ∃ x, m[j]? = some x := ⟨_, List.getElem?_eq_getElem (by omega)⟩
            have hx' : (cel m)[j]? = some (.int .u8 x) := by simp [cel, hx]
            rw [hx'] at hcell
            have hxb : 0 ≤ x ∧ x < 256 := hbm x (List.mem_of_getElem? hx)
            have hst := hown.stored j (.int .u8 ((x + 1) % 256))
            rw [cel_set] at hst
            have HS2 := Lib.hid hst
            have HB2 := Lib.hid (BI.out.setCell (p := ⟨g, j, none⟩) hg (.int .u8 ((x + 1) % 256)))
            have HY := Lib.hid (byt_set hbm j (x := (x + 1) % 256) (by omega))
            have HM := Lib.hid hm
            have HO9 := Lib.hid (ownsRow_setCell_below HO8.out (a := ⟨g, j, none⟩) (show g < w13.heap.size by omega) (.int .u8 ((x + 1) % 256)))
            have HR9 := Lib.hid (Rv.other HRR.out (p := ⟨g, j, none⟩) (show g ≠ gr by omega) (.int .u8 ((x + 1) % 256)))
            clear hx hx' hst hown hm hbm HI BI HO8 HRR
            go_wp2_with fail
            go_roundw
            case rel => exact ⟨j + 1, m.set j ((x + 1) % 256), by omega, by go_num, Lib.hid ⟨HY.out, by rw [List.length_set]; exact HM.out, HS2.out.1⟩, HO9, HR9, HB2⟩
            case measure => simp [intOf]; omega
          · obtain rfl : j = Bt.length := by omega
            clear HI
            go_wp2_with fail
            go_loopw [19] (fun i wx => ∃ (j : Nat) (M : List Vlu), j ≤ K.length ∧ i = .int .i64 j ∧ Hid (M.length = K.length ∧ wx.ownsRow w13.heap.size 24 3 (.slice A8 K.length c8) K.length (cev M)) ∧ Hid (Rv wx (some ⟨gr, 0, none⟩) c7 (L ++ [(77, 0, 0)])) ∧ Hid (Below wA.heap.size wA wx)) (fun i _ => K.length - (intOf i).toNat)
            case atStart => exact ⟨0, K, by omega, rfl, Lib.hid ⟨rfl, HO8.out⟩, HRR, BI⟩
            case round =>
              obtain ⟨j, M, hj, rfl, HI, HRR, BI⟩ := hrel
              by_cases hlt : j < K.length
              · obtain ⟨hm, hown⟩ := HI.out
                obtain ⟨g, rfl, hg⟩ := own3_some hown (by omega)
                have hfz := hown.frozenAt (j * 3)
                have hcell := hown.cellAt (j * 3) (by omega)
                obtain ⟨x, hx⟩ : ∃ x, M[j]? = some x := ⟨_, List.getElem?_eq_getElem (by omega)⟩
                rw [(cev_at hx).1] at hcell
                have hst := hown.stored (j * 3) (.int .u8 77)
                rw [cev_set0 hx] at hst
                have HS2 := Lib.hid hst
                have HB2 := Lib.hid (BI.out.setCell (p := ⟨g, j * 3, none⟩) (show wA.heap.size ≤ g by omega) (.int .u8 77))
                have HM := Lib.hid hm
                have HR9 := Lib.hid (Rv.other HRR.out (p := ⟨g, j * 3, none⟩) (show g ≠ gr by omega) (.int .u8 77))
                clear hx hst hown hm HI BI HRR
                go_wp2_with fail
                go_roundw
                case rel => exact ⟨j + 1, M.set j (77, x.2), by omega, by go_num, Lib.hid ⟨by rw [List.length_set]; exact HM.out, HS2.out.1⟩, HR9, HB2⟩
                case measure => simp [intOf]; omega
              · have T7 := Lib.hid (T0.out.call BI.out)
                go_wp2_with fail
                refine (r3same_any (some ⟨gr, 0, none⟩) A c7 c _ _ L L _ (by have := Rv.take HRR.out L.length; rwa [List.take_left] at this) T7.out.2.2.2.2.1 rfl rfl).mono ?_
                rintro e w17 ⟨rfl, hb17⟩
                rw [decide_eq_true rfl]
                have T8 := Lib.hid (T7.out.call hb17)
                clear T7 hb17
                go_wp2_with fail
                go_roundw
                case rel => exact ⟨t + 1, by omega, by go_num, T8⟩
                case measure => simp [intOf]; omega
      · obtain rfl : t = 2 := by omega
        go_wp2_with fail
        go_ret
        exact ⟨rfl, T0.out.1⟩
  · go_enter Tryd.func3, Tryd.ntmps3
    go_wp2_with fail
    go_ret
    exact ⟨rfl, new1⟩
end Go.Proofs.YtohbndjfnakelaaDoor
