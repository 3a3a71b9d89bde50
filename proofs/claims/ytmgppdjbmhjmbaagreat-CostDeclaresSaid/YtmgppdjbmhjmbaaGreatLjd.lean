/-
  Jk, Jl: in one text.
-/
import Derived.Test.YtmgppdjbmhjmbaaGreatLu
import Derived.Test.YtmgppdjbmhjmbaaGreatLjc
namespace Go.Proofs.YtmgppdjbmhjmbaaGreat
open Go.RowKit
set_option maxRecDepth 100000
set_option linter.unusedSimpArgs false
set_option linter.unusedVariables false

set_option maxHeartbeats 4000000 in
theorem row12_v (A : Option Addr) (c n : Nat) (L : List Ins) (w : World) (hr : Rn w A c (two9 L)) (hn : 2 * L.length = n) (hl : n ≤ 1000) (hok : ∀ x ∈ L, InOk x ∧ x.2.2 = 0) :
    Calls Tryz.prog 28 #[.slice A n c] w fun r w' => ∃ A' c', r = .returned (.slice A' L.length c') ∧ w'.ownsRow w.heap.size 67 3 (.slice A' L.length c') L.length (cei L) ∧ Below w.heap.size w w' := by
  have HR := Lib.hid hr
  have HKK := Lib.hid hok
  have hcap := hr.1
  rw [two9_len] at hcap
  have hmax := hr.2.1
  unfold maxLen at hmax
  clear hr hok
  go_enter Tryz.func28, Tryz.ntmps28
  go_wp2_with fail
  go_loopw [3, 4] (fun o i wr => ∃ (j k : Nat) (A' : Option Addr) (c' : Nat), j ≤ L.length ∧ i = .int .i64 k ∧ Hid (k = 2 * j) ∧ o = .slice A' j c' ∧ Hid (wr.ownsRow w.heap.size 67 3 (.slice A' j c') j (cei (L.take j))) ∧ Hid (Below w.heap.size w wr)) (fun _ i _ => n - (intOf i).toNat)
  case atStart => exact ⟨0, 0, none, 0, by omega, rfl, Lib.hid rfl, rfl, Lib.hid (World.ownsRow_nil _ _ _ _), Lib.hid (Below.refl _ _)⟩
  case round =>
    obtain ⟨j, k, A1, c1, hj, rfl, HK, rfl, HO, HB⟩ := hrel
    have hkb : k ≤ 1000 := by have := HK.out; omega
    have hk3 : (0 : Int) ≤ (k : Int) + 1 := by omega
    have hwr : IntKind.i64.wrap ((k : Int) + 1) = ((k + 1 : Nat) : Int) := by
      simp [IntKind.wrap, IntKind.signed, IntKind.bits, go_sem]
      omega
    by_cases h1 : j < L.length
    · obtain ⟨x, hx0⟩ : ∃ x, L[j] = x := ⟨_, rfl⟩
      have hx := Lib.hid hx0
      have HOK : Hid (InOk x) := by have := (HKK.out L[j] (List.getElem_mem h1)).1; rwa [hx0] at this
      have hB0 := (HKK.out L[j] (List.getElem_mem h1)).2
      rw [hx0] at hB0
      have hx0 := hB0
      clear hB0
      obtain ⟨t1, t2⟩ := two9_at (L := L) (i := j) (x := x) (by rw [List.getElem?_eq_getElem h1, hx.out])
      rw [← HK.out] at t1 t2
      have hk1 : k < n := by have := HK.out; omega
      have hk2 : k + 1 < n := by have := HK.out; omega
      obtain ⟨ad, rfl, s0⟩ := HR.out.at_ t1
      have SN : Hid (∀ w', Below w.heap.size w w' → Rn w' (some ad) c (two9 L) ∧ w'.cell? (ad.add k) = some (.int .i64 x.1) ∧ w'.cell? ⟨ad.block, ad.off + (k + 1), none⟩ = some (.int .i64 x.2.1) ∧ True) := Lib.hid fun w' hb => by
        have h := HR.out.keep hb
        obtain ⟨a1, e1, k1⟩ := h.at_ t1
        obtain ⟨a2, e2, k2⟩ := h.at_ t2
        injection e1 with e1
        injection e2 with e2
        subst e1 e2
        rw [add_succ9] at k2
        exact ⟨h, k1, k2, trivial⟩
      have SR : Hid (Below w.heap.size w wr.drew ∧ Rn wr.drew (some ad) c (two9 L) ∧ wr.drew.cell? (ad.add k) = some (.int .i64 x.1) ∧ wr.drew.cell? ⟨ad.block, ad.off + (k + 1), none⟩ = some (.int .i64 x.2.1) ∧ True) := Lib.hid ⟨below_draws HB.out 1, SN.out _ (below_draws HB.out 1)⟩
      have hm : IntKind.u8.wrap x.1 = x.1 := by
        have := HOK.out.1
        simp [IntKind.wrap, IntKind.signed, IntKind.bits, go_sem]
        omega
      clear t1 t2 s0
      go_upto_region 5 with (fail)
      refine wp_region_held_drew (S := fun w' => Hid (Below w.heap.size w w' ∧ Rn w' (some ad) c (two9 L) ∧ w'.cell? (ad.add k) = some (.int .i64 x.1) ∧ w'.cell? ⟨ad.block, ad.off + (k + 1), none⟩ = some (.int .i64 x.2.1) ∧ True)) (by kernel_rfl) (SR) (fun hHeld => ?_)
      refine wpAnyH_take (i := 0) (v := ?_) rfl (by kernel_rfl) (by kernel_rfl) (by kernel_rfl) (fun _ _ _ h => h) (Or.inl ⟨by rfl, ?_⟩) (by assumption) ?_
      rotate_left 1
      · intro w _; go_simp; try with_reducible rfl
      try simp only [Act.put, List.getElem_toArray, List.getElem_cons_zero, List.getElem_cons_succ, List.setIfInBounds_toArray, List.set_cons_zero, List.set_cons_succ]
      refine wpAnyH_take (i := 1) (v := ?_) rfl (by kernel_rfl) (by kernel_rfl) (by kernel_rfl) (fun _ _ _ h => h) (Or.inl ⟨by rfl, ?_⟩) (by assumption) ?_
      rotate_left 1
      · intro w _; go_simp; try with_reducible rfl
      try simp only [Act.put, List.getElem_toArray, List.getElem_cons_zero, List.getElem_cons_succ, List.setIfInBounds_toArray, List.set_cons_zero, List.set_cons_succ]
      refine wpAnyH_take (i := 2) (v := ?_) rfl (by kernel_rfl) (by kernel_rfl) (by kernel_rfl) (fun _ _ _ h => h) (Or.inl ⟨by rfl, ?_⟩) (by assumption) ?_
      rotate_left 1
      · intro w _; go_simp; try with_reducible rfl
      try simp only [Act.put, List.getElem_toArray, List.getElem_cons_zero, List.getElem_cons_succ, List.setIfInBounds_toArray, List.set_cons_zero, List.set_cons_succ]
      refine wpAnyH_take (i := 3) (v := ?_) rfl (by kernel_rfl) (by kernel_rfl) (by kernel_rfl) (fun _ _ _ h => h) (Or.inl ⟨by rfl, ?_⟩) (by assumption) ?_
      rotate_left 1
      · intro w _; go_simp; try with_reducible rfl
      try simp only [Act.put, List.getElem_toArray, List.getElem_cons_zero, List.getElem_cons_succ, List.setIfInBounds_toArray, List.set_cons_zero, List.set_cons_succ]
      refine wpAnyH_take (i := 4) (v := ?_) rfl (by kernel_rfl) (by kernel_rfl) (by kernel_rfl) (fun _ _ _ h => h) (Or.inl ⟨by rfl, ?_⟩) (by assumption) ?_
      rotate_left 1
      · intro w hSw; (try dsimp only at hSw); obtain ⟨-, -, s0, s1, -⟩ := hSw.out; go_simp; try with_reducible rfl
      try simp only [Act.put, List.getElem_toArray, List.getElem_cons_zero, List.getElem_cons_succ, List.setIfInBounds_toArray, List.set_cons_zero, List.set_cons_succ]
      refine wpAnyH_take (i := 5) (v := ?_) rfl (by kernel_rfl) (by kernel_rfl) (by kernel_rfl) (fun _ _ _ h => h) (Or.inl ⟨by rfl, ?_⟩) (by assumption) ?_
      rotate_left 1
      · intro w hSw; (try dsimp only at hSw); obtain ⟨-, -, s0, s1, -⟩ := hSw.out; go_simp; try with_reducible rfl
      try simp only [Act.put, List.getElem_toArray, List.getElem_cons_zero, List.getElem_cons_succ, List.setIfInBounds_toArray, List.set_cons_zero, List.set_cons_succ]
      refine wpAnyH_take (i := 6) (v := ?_) rfl (by kernel_rfl) (by kernel_rfl) (by kernel_rfl) (fun _ _ _ h => h) (Or.inl ⟨by rfl, ?_⟩) (by assumption) ?_
      rotate_left 1
      · intro w _; go_simp; try with_reducible rfl
      try simp only [Act.put, List.getElem_toArray, List.getElem_cons_zero, List.getElem_cons_succ, List.setIfInBounds_toArray, List.set_cons_zero, List.set_cons_succ]
      refine wpAnyH_take (i := 7) (v := ?_) rfl (by kernel_rfl) (by kernel_rfl) (by kernel_rfl) (fun _ _ _ h => h) (Or.inl ⟨by rfl, ?_⟩) (by assumption) ?_
      rotate_left 1
      · intro w _; go_simp; try with_reducible rfl
      try simp only [Act.put, List.getElem_toArray, List.getElem_cons_zero, List.getElem_cons_succ, List.setIfInBounds_toArray, List.set_cons_zero, List.set_cons_succ]
      refine wpAnyH_take (i := 8) (v := ?_) rfl (by kernel_rfl) (by kernel_rfl) (by kernel_rfl) (fun _ _ _ h => h) (Or.inl ⟨by rfl, ?_⟩) (by assumption) ?_
      rotate_left 1
      · intro w _; go_simp; try with_reducible rfl
      try simp only [Act.put, List.getElem_toArray, List.getElem_cons_zero, List.getElem_cons_succ, List.setIfInBounds_toArray, List.set_cons_zero, List.set_cons_succ]
      refine wpAnyH_take (i := 9) (v := ?_) rfl (by kernel_rfl) (by kernel_rfl) (by kernel_rfl) (fun _ _ _ h => h) (Or.inl ⟨by rfl, ?_⟩) (by assumption) ?_
      rotate_left 1
      · intro w _; go_simp; try with_reducible rfl
      try simp only [Act.put, List.getElem_toArray, List.getElem_cons_zero, List.getElem_cons_succ, List.setIfInBounds_toArray, List.set_cons_zero, List.set_cons_succ]
      refine wpAnyH_take (i := 10) (v := ?_) rfl (by kernel_rfl) (by kernel_rfl) (by kernel_rfl) (fun _ _ _ h => h) (Or.inl ⟨by rfl, ?_⟩) (by assumption) ?_
      rotate_left 1
      · intro w hSw; (try dsimp only at hSw); obtain ⟨-, -, s0, s1, -⟩ := hSw.out; go_simp; try with_reducible rfl
      try simp only [Act.put, List.getElem_toArray, List.getElem_cons_zero, List.getElem_cons_succ, List.setIfInBounds_toArray, List.set_cons_zero, List.set_cons_succ]
      refine wpAnyH_take (i := 11) (v := ?_) rfl (by kernel_rfl) (by kernel_rfl) (by kernel_rfl) (fun _ _ _ h => h) (Or.inl ⟨by rfl, ?_⟩) (by assumption) ?_
      rotate_left 1
      · intro w _; go_simp; try with_reducible rfl
      try simp only [Act.put, List.getElem_toArray, List.getElem_cons_zero, List.getElem_cons_succ, List.setIfInBounds_toArray, List.set_cons_zero, List.set_cons_succ]
      refine wpAnyH_ready (rs := [12]) (by kernel_rfl) (by simp) ?_
      refine AllReadyH.cons rfl (fun K hK => ?_) AllReadyH.nil
      go_simp
      have R4 := Lib.hid (Ri.drewN (ri_new wr x HOK.out) 1)
      have O4 := Lib.hid (own_below HO.out (below_draws (new1 (a := .cells #[.int .u8 x.1, .int .i64 x.2.1, .int .i64 0] 67)) 1) (Nat.le_refl _))
      rw [hx0] at R4
      have B4 := Lib.hid (HB.out.trans ((below_draws (new1 (w := wr) (a := .cells #[.int .u8 x.1, .int .i64 x.2.1, .int .i64 0] 67)) 1).mono HB.out.size))
      refine hK.out _ _ (Lib.hid ⟨B4.out, SN.out _ B4.out⟩) (fun hHeld => ?_)
      clear hK K
      try simp only [Act.put, List.getElem_toArray, List.getElem_cons_zero, List.getElem_cons_succ, List.setIfInBounds_toArray, List.set_cons_zero, List.set_cons_succ]
      refine wpAnyH_ready (rs := [13]) (by kernel_rfl) (by simp) ?_
      refine AllReadyH.cons rfl (fun K hK => ?_) AllReadyH.nil
      refine step_append_ri rfl (.tmp 12) (.tmp 24) rfl w.heap.size _ j (L.take j) rfl O4.out _ 1 1 [x] rfl R4.out rfl (by omega) B4.out.size ?_
      intro A9 c9 w9 ho hg hb
      have O9 := Lib.hid ho
      have B9 := Lib.hid (B4.out.trans hb)
      clear ho hg
      refine hK.out _ _ (Lib.hid ⟨B9.out, SN.out _ B9.out⟩) (fun hHeld => ?_)
      clear hK K
      try simp only [Act.put, List.getElem_toArray, List.getElem_cons_zero, List.getElem_cons_succ, List.setIfInBounds_toArray, List.set_cons_zero, List.set_cons_succ]
      refine wpAnyH_take (i := 14) (v := ?_) rfl (by kernel_rfl) (by kernel_rfl) (by kernel_rfl) (fun _ _ _ h => h) (Or.inl ⟨by rfl, ?_⟩) (by assumption) ?_
      rotate_left 1
      · intro w _; go_simp; try with_reducible rfl
      try simp only [Act.put, List.getElem_toArray, List.getElem_cons_zero, List.getElem_cons_succ, List.setIfInBounds_toArray, List.set_cons_zero, List.set_cons_succ]
      refine wpAnyH_done (by kernel_rfl) ?_ _
      clear hHeld
      have HO9 : Hid (w9.ownsRow w.heap.size 67 3 (.slice A9 (j + 1) c9) (j + 1) (cei (L.take (j + 1)))) := by
        have h := O9.out
        rw [Hid, List.take_add_one, List.getElem?_eq_getElem h1, hx.out]
        exact h
      go_wp2_with fail
      go_roundw
      case rel => exact ⟨j + 1, k + 2, A9, c9, by omega, by go_num, Lib.hid (by have := HK.out; omega), rfl, HO9, B9⟩
      case measure => simp [intOf]; omega
    · obtain rfl : j = L.length := by omega
      have hk1 : ¬ k + 1 < n := by have := HK.out; omega
      rw [List.take_of_length_le (Nat.le_refl _)] at HO
      go_wp2_with fail
      go_ret
      exact ⟨A1, c1, rfl, HO.out, HB.out⟩
theorem row10_lit (L : List Ins) (w : World) (n : Nat) (cs : Array Value) (t : Nat) (hcs : cs = ((two9 L).map (Value.int .i64)).toArray) (hn : 2 * L.length = n) (hl : n ≤ 1000) (hok : ∀ x ∈ L, InOk x ∧ x.2.2 = 0) :
    Calls Tryz.prog 28 #[.slice (some ⟨w.heap.size, 0, none⟩) n n] (w.alloc (.cells cs t)) fun r w' => ∃ A' c', r = .returned (.slice A' L.length c') ∧ Ri w' A' c' L ∧ Below w.heap.size w w' := by
  subst hcs
  have h := Rn.new w (two9 L) t (by rw [two9_len]; unfold maxLen; omega)
  rw [two9_len, hn] at h
  refine (row12_v _ n n L _ h hn hl hok).mono ?_
  rintro r w' ⟨A', c', rfl, ho, hb⟩
  exact ⟨A', c', rfl, (Ri.of_own ho (fun x hx => (hok x hx).1)).1, new1.trans (hb.mono (by rw [size1]; omega))⟩
end Go.Proofs.YtmgppdjbmhjmbaaGreat
namespace Go.Proofs.YtmgppdjbmhjmbaaGreat
open Go.RowKit
set_option maxRecDepth 100000
set_option linter.unusedSimpArgs false
set_option linter.unusedVariables false

/-- A method that declares as much as may be. -/
def dm12 (a : List Int) : Mh := ⟨a, [], 1, false, 1048576, 256, 1024⟩
theorem dec_end12 (tm : Array Value) (w' : World) (T : Nat) (x : Mc) (m : Mh) (hT : tm[4]?.getD undef = .pointer (some ⟨T, 0, none⟩)) (hM : Mb w' T x m) (R : Ending → World → Prop)
    (hR : R (.returned (mv x m)) w') : bodyPost Tryz.prog Tryz.f17 R .ret { tmps := tm, defers := [] } w' := by
  obtain ⟨h0, c1, c2, c3, c4, c5, c6, c7, c8⟩ := hM
  exact bodyPost_ret (v := mv x m) (by simp [results, Tryz.results17, go_sem, hT, c1, c2, c3, c4, c5, c6, c7, c8]) rfl hR
theorem own_put812 {w : World} {base e size n B : Nat} {v : Value} {xs : List Value} (h : w.ownsRow base e size v n xs) (hB : B < base) (x : Mc) (m : Mh) : (put8 w B x m).ownsRow base e size v n xs :=
  ownsRow_setCell_below (ownsRow_setCell_below (ownsRow_setCell_below (ownsRow_setCell_below (ownsRow_setCell_below (ownsRow_setCell_below (ownsRow_setCell_below (ownsRow_setCell_below h (a := ⟨B, 0, none⟩) hB _) (a := ⟨B, 1, none⟩) hB _) (a := ⟨B, 2, none⟩) hB _) (a := ⟨B, 3, none⟩) hB _) (a := ⟨B, 4, none⟩) hB _) (a := ⟨B, 5, none⟩) hB _) (a := ⟨B, 6, none⟩) hB _) (a := ⟨B, 7, none⟩) hB _
set_option maxHeartbeats 4000000 in
theorem declared12_v (A : Option Addr) (c : Nat) (a : List Int) (D : Option Addr) (dc n : Nat) (L : List Ins) (w : World) (ha : Rd w A c a) (hr : Rn w D dc (two9 L)) (hn : 2 * L.length = n) (hl : n ≤ 1000) (hok : ∀ x ∈ L, InOk x ∧ x.2.2 = 0) :
    Calls Tryz.prog 17 #[.slice A a.length c, .slice D n dc] w fun r w' => ∃ A' c', r = .returned (mv ⟨A, c, none, 0, A', L.length, c'⟩ (dm12 a)) ∧ Hd w' ⟨A, c, none, 0, A', L.length, c'⟩ (dm12 a) ∧ Ri w' A' c' L ∧ Below w.heap.size w w' := by
  obtain ⟨B, hB⟩ : ∃ B, w.heap.size = B := ⟨_, rfl⟩
  have hb0 : Below w.heap.size w (w.alloc (hcel Mc.zero Mh.zero)) := new1
  have HM0 : Hid (Mb (w.alloc (hcel Mc.zero Mh.zero)) B Mc.zero Mh.zero) := Lib.hid (by rw [← hB]; exact Mb.new w _ _)
  have HRW := Lib.hid (row12_v D dc n L _ (hr.keep hb0) hn hl hok)
  have HA := Lib.hid (ha.keep hb0)
  have HF0 : Hid (Mf (w.alloc (hcel Mc.zero Mh.zero)) B) := Lib.hid (by rw [← hB]; exact Mf.new w _ _)
  have HB0 := Lib.hid hb0
  have HAW := Lib.hid ha
  have HOKK : Hid (∀ x ∈ L, InOk x) := Lib.hid (fun x hx => (hok x hx).1)
  have HBB := Lib.hid hB
  clear hr ha hb0 hok
  go_enter Tryz.func17, Tryz.ntmps17
  go_upto_region 1 with (fail)
  change Code.wp _ _ _ _ (w.alloc (hcel Mc.zero Mh.zero))
  have hsz : B < (w.alloc (hcel Mc.zero Mh.zero)).heap.size := by rw [size1, hB]; omega
  clear hB
  generalize w.alloc (hcel Mc.zero Mh.zero) = w1 at HRW HA HB0 HM0 HF0 hsz ⊢
  go_wp2_with fail
  refine HRW.out.mono ?_
  rintro r w2 ⟨A', c', rfl, ho, hb⟩
  have HM2 := Lib.hid (HM0.out.keep hb)
  have HF2 := Lib.hid (HF0.out.keep hb)
  have HO2 := Lib.hid (own_put812 ho hsz ⟨A, c, none, 0, A', L.length, c'⟩ (dm12 a))
  have HB2 := Lib.hid (put8_below (below_on HB0.out hb) (show w.heap.size ≤ B by rw [HBB.out]; exact Nat.le_refl _) ⟨A, c, none, 0, A', L.length, c'⟩ (dm12 a))
  have HM3 := Lib.hid (put8_mb HM2.out ⟨A, c, none, 0, A', L.length, c'⟩ (dm12 a))
  clear HRW ho hb
  obtain ⟨h0, c0, c1, c2, c3, c4, c5, c6, c7⟩ := HM2.out
  obtain ⟨f0, f1, f2, f3, f4, f5, f6, f7⟩ := HF2.out.keepM
  go_wp2_with fail
  refine dec_end12 _ _ B ⟨A, c, none, 0, A', L.length, c'⟩ (dm12 a) rfl HM3.out _ ?_
  exact ⟨A', c', rfl, ⟨HAW.out.keep HB2.out, Rd.none_ _, by unfold Mh.nums dm12; dsimp only; decide⟩, (Ri.of_own HO2.out HOKK.out).1, HB2.out⟩
theorem declared12_lit (A : Option Addr) (c : Nat) (a : List Int) (L : List Ins) (w : World) (n : Nat) (cs : Array Value) (t : Nat) (na : Nat) (hna : a.length = na) (hcs : cs = ((two9 L).map (Value.int .i64)).toArray) (hn : 2 * L.length = n) (hl : n ≤ 1000) (ha : Rd w A c a) (hok : ∀ x ∈ L, InOk x ∧ x.2.2 = 0) :
    Calls Tryz.prog 17 #[.slice A na c, .slice (some ⟨w.heap.size, 0, none⟩) n n] (w.alloc (.cells cs t)) fun r w' => ∃ A' c', r = .returned (mv ⟨A, c, none, 0, A', L.length, c'⟩ (dm12 a)) ∧ Hd w' ⟨A, c, none, 0, A', L.length, c'⟩ (dm12 a) ∧ Ri w' A' c' L ∧ Below w.heap.size w w' := by
  subst hcs hna
  have h := Rn.new w (two9 L) t (by rw [two9_len]; unfold maxLen; omega)
  rw [two9_len, hn] at h
  refine (declared12_v A c a _ n n L _ (ha.keep new1) h hn hl hok).mono ?_
  rintro r w' ⟨A', c', rfl, hd, hri, hb⟩
  exact ⟨A', c', rfl, hd, hri, new1.trans (hb.mono (by rw [size1]; omega))⟩
/-- The chapter's examples. -/
def one12 : List Ins := [(2, 0, 0), (31, 0, 0)]
def two12 : List Ins := [(28, 3, 0), (1, 0, 0), (22, 4, 0), (6, 0, 0), (29, 0, 0), (1, 0, 0), (31, 0, 0)]
def three12 : List Ins := [(1, 0, 0), (30, 0, 0), (31, 0, 0)]
def md12 : Md := ⟨[], [(1, 3, 0)], [(dm12 [1], one12), (dm12 [], two12), (dm12 [], three12)], -1⟩
set_option maxHeartbeats 4000000 in
theorem co12_ex : co12 md12 = ([(2, 2, 0), (15, 1, 12), (5, 2, 0)], 0) := by decide +kernel
theorem eq_cert (d : Nat) (k a b k' a' b' : Int) (v : Bool) (h : (k == k' && a == a' && b == b') = v) (w : World) : (Op.equalIn (d + 1 + 1) 44 (.agg #[.int .i64 k, .int .i64 a, .int .i64 b]) (.agg #[.int .i64 k', .int .i64 a', .int .i64 b'])).run Tryz.prog w = .ok v w := by
  have hS : Tryz.prog.underlying 44 = some (.struct (Tryz.prog.fieldsOf 44)) := by kernel_rfl
  have hp : Tryz.prog.stoodInHeld 44 = false := by kernel_rfl
  have u2 := Tryz.underlying3
  have h0 : ∀ u v t : Value, (part 3 #[u, v, t] 0).run Tryz.prog w = .ok u w := fun u v t => by kernel_rfl
  have h1 : ∀ u v t : Value, (part 3 #[u, v, t] 1).run Tryz.prog w = .ok v w := fun u v t => by kernel_rfl
  have h2 : ∀ u v t : Value, (part 3 #[u, v, t] 2).run Tryz.prog w = .ok t w := fun u v t => by kernel_rfl
  rw [run_equalIn_agg w (d + 1) 44 _ _ hS hp]
  simp only [Program.fieldsOf, Tryz.underlying44]
  subst h
  go_simp
  by_cases e1 : k = k' <;> by_cases e2 : a = a' <;> by_cases e3 : b = b' <;> simp [e1, e2, e3]
set_option maxHeartbeats 8000000 in
theorem awake12_v (w : World) : Calls Tryz.prog 6 #[] w fun r w' => r = .returned (.bool true) ∧ Below w.heap.size w w' := by
  have HCO : Hid (co12 md12 = ([(2, 2, 0), (15, 1, 12), (5, 2, 0)], 0)) := Lib.hid co12_ex
  go_enter Tryz.func6, Tryz.ntmps6
  have ha : Rd (w.alloc (.cells #[.int .u8 1] 5)) (some ⟨w.heap.size, 0, none⟩) 1 [1] := own_rd (World.ownsRow_lit (base := w.heap.size) (size := 1) w #[.int .u8 1] 1 (Nat.le_refl _) (by unfold maxLen; omega) rfl) (fun x hx => by rw [List.mem_singleton.1 hx]; decide)
  have HD1 := declared12_lit (some ⟨w.heap.size, 0, none⟩) 1 [1] one12 (w.alloc (.cells #[.int .u8 1] 5)) 4 _ 3 1 rfl rfl rfl (by omega) ha (by unfold one12 InOk; decide)
  rw [size1] at HD1
  have HDD := Lib.hid HD1
  clear ha HD1
  go_wp2_with fail
  refine HDD.out.mono ?_
  rintro r w1 ⟨A1, c1, rfl, hd1, hr1, hb⟩
  have S1 := Lib.hid (((((Sx.start w).call (new1.trans (hb.mono (by omega)))).add (fT A1 c1 one12) hr1).add (fH ⟨some ⟨w.heap.size, 0, none⟩, 1, none, 0, A1, 2, c1⟩ (dm12 [1])) hd1).mkM ⟨some ⟨w.heap.size, 0, none⟩, 1, none, 0, A1, 2, c1⟩ (dm12 [1]))
  obtain ⟨P1, hP1⟩ : ∃ P, w1.heap.size = P := ⟨_, rfl⟩
  rw [hP1] at S1
  clear HDD hd1 hr1 hb
  go_upto_region 3 with (fail)
  change Code.wp _ _ _ _ (w1.alloc (hcel ⟨some ⟨w.heap.size, 0, none⟩, 1, none, 0, A1, 2, c1⟩ (dm12 [1])))
  generalize w1.alloc (hcel ⟨some ⟨w.heap.size, 0, none⟩, 1, none, 0, A1, 2, c1⟩ (dm12 [1])) = w2 at S1 ⊢
  clear hP1
  have HDD := Lib.hid (declared12_lit none 0 [] two12 w2 14 _ 3 0 rfl rfl rfl (by omega) (Rd.none_ _) (by unfold two12 InOk; decide))
  go_wp2_with fail
  refine HDD.out.mono ?_
  rintro r w3 ⟨A2, c2, rfl, hd2, hr2, hb⟩
  have S2 := Lib.hid ((((S1.out.call hb).add (fT A2 c2 two12) hr2).add (fH ⟨none, 0, none, 0, A2, 7, c2⟩ (dm12 [])) hd2).mkM ⟨none, 0, none, 0, A2, 7, c2⟩ (dm12 []))
  obtain ⟨P2, hP2⟩ : ∃ P, w3.heap.size = P := ⟨_, rfl⟩
  rw [hP2] at S2
  clear HDD hd2 hr2 hb S1
  go_upto_region 4 with (fail)
  change Code.wp _ _ _ _ (w3.alloc (hcel ⟨none, 0, none, 0, A2, 7, c2⟩ (dm12 [])))
  generalize w3.alloc (hcel ⟨none, 0, none, 0, A2, 7, c2⟩ (dm12 [])) = w4 at S2 ⊢
  clear hP2
  have HDD := Lib.hid (declared12_lit none 0 [] three12 w4 6 _ 3 0 rfl rfl rfl (by omega) (Rd.none_ _) (by unfold three12 InOk; decide))
  go_wp2_with fail
  refine HDD.out.mono ?_
  rintro r w5 ⟨A3, c3, rfl, hd3, hr3, hb⟩
  have S3 := Lib.hid ((((S2.out.call hb).add (fT A3 c3 three12) hr3).add (fH ⟨none, 0, none, 0, A3, 3, c3⟩ (dm12 [])) hd3).mkM ⟨none, 0, none, 0, A3, 3, c3⟩ (dm12 []))
  obtain ⟨P3, hP3⟩ : ∃ P, w5.heap.size = P := ⟨_, rfl⟩
  rw [hP3] at S3
  clear HDD hd3 hr3 hb S2
  go_upto_region 5 with (fail)
  change Code.wp _ _ _ _ (w5.alloc (hcel ⟨none, 0, none, 0, A3, 3, c3⟩ (dm12 [])))
  generalize w5.alloc (hcel ⟨none, 0, none, 0, A3, 3, c3⟩ (dm12 [])) = w6 at S3 ⊢
  clear hP3
  obtain ⟨-, ⟨t0, t1, t2, t3, t4, t5, t6, t7, t8⟩, -, -, ⟨s0, s1, s2, s3, s4, s5, s6, s7, s8⟩, -, -, ⟨m0, m1, m2, m3, m4, m5, m6, m7, m8⟩, -⟩ := S3.out
  dsimp only [dm12, List.length_cons, List.length_nil] at t1 t2 t3 t4 t5 t6 t7 t8 s1 s2 s3 s4 s5 s6 s7 s8 m1 m2 m3 m4 m5 m6 m7 m8
  go_upto_region 6 with (fail)
  clear t0 t1 t2 t3 t4 t5 t6 t7 t8 s0 s1 s2 s3 s4 s5 s6 s7 s8 m0 m1 m2 m3 m4 m5 m6 m7 m8
  obtain ⟨Q, hQ⟩ : ∃ Q, w6.heap.size = Q := ⟨_, rfl⟩
  obtain ⟨y, hy⟩ : ∃ y : Ma, (⟨none, 0, some ⟨Q, 0, none⟩, 1, some ⟨Q + 1, 0, none⟩, 3, [⟨⟨some ⟨w.heap.size, 0, none⟩, 1, none, 0, A1, 2, c1⟩, dm12 [1], one12⟩, ⟨⟨none, 0, none, 0, A2, 7, c2⟩, dm12 [], two12⟩, ⟨⟨none, 0, none, 0, A3, 3, c3⟩, dm12 [], three12⟩]⟩ : Ma) = y := ⟨_, rfl⟩
  have ho1 := World.ownsRow_lit (base := Q) (e := 57) (size := 3) w6 #[.int .u8 1, .int .i64 3, .int .i64 0] 1 (by omega) (by unfold maxLen; omega) rfl
  rw [hQ] at ho1
  have ho2 := World.ownsRow_lit (base := Q) (e := 39) (size := 8) (w6.alloc (.cells #[.int .u8 1, .int .i64 3, .int .i64 0] 57)) (cem y.Z).toArray 3 (by rw [size1]; omega) (by unfold maxLen; omega) (by rw [← hy]; rfl)
  rw [size1, hQ, List.toList_toArray] at ho2
  have S7 := (S3.out.mk1 (.cells #[.int .u8 1, .int .i64 3, .int .i64 0] 57)).mk1 (.cells (cem y.Z).toArray 39)
  have hq : Hq ((w6.alloc (.cells #[.int .u8 1, .int .i64 3, .int .i64 0] 57)).alloc (.cells (cem y.Z).toArray 39)) y md12 := by
    obtain ⟨-, -, h3, k3, -, h2, k2, -, h1, k1, -⟩ := S7
    refine ⟨?_, ?_, ?_, ?_, ?_⟩
    · rw [← hy]; exact Rv.none_ _
    · have := (Rv.of_own (L := [(1, 3, 0)]) (ho1.alloc (.cells (cem y.Z).toArray 39)) (fun x hx => by rw [List.mem_singleton.1 hx]; unfold VlOk; decide)).1
      rw [← hy] at this ⊢
      exact this
    · have := (Rm.of_own ho2 (fun z hz => by
        rw [← hy] at hz
        simp only [List.mem_cons, List.not_mem_nil, or_false] at hz
        rcases hz with rfl | rfl | rfl
        · exact ⟨h1, k1, rfl⟩
        · exact ⟨h2, k2, rfl⟩
        · exact ⟨h3, k3, rfl⟩)).1
      rw [← hy] at this ⊢
      exact this
    · rw [← hy]; rfl
    · unfold md12; dsimp only; decide
  have S8 := Lib.hid ((S7.add (fQm y md12) hq).mkD y md12)
  obtain ⟨R, hR⟩ : ∃ R, ((w6.alloc (.cells #[.int .u8 1, .int .i64 3, .int .i64 0] 57)).alloc (.cells (cem y.Z).toArray 39)).heap.size = R := ⟨_, rfl⟩
  have hR2 : Q + 2 = R := by rw [← hR, size1, size1, hQ]
  rw [hR] at S8
  have hwd : ((w6.alloc (.cells #[.int .u8 1, .int .i64 3, .int .i64 0] 57)).alloc (.cells (cem y.Z).toArray 39)).alloc (dcel y md12) = ((w6.alloc (.cells #[.int .u8 1, .int .i64 3, .int .i64 0] 57)).alloc
          (.cells #[.slice (some ⟨w.heap.size, 0, none⟩) 1 1, .slice none 0 0, .int .u8 1, .bool false, .int .i64 1048576, .int .i64 256, .int .i64 1024, .slice A1 2 c1, .slice none 0 0, .slice none 0 0, .int .u8 1, .bool false, .int .i64 1048576, .int .i64 256, .int .i64 1024, .slice A2 7 c2, .slice none 0 0, .slice none 0 0, .int .u8 1, .bool false, .int .i64 1048576, .int .i64 256, .int .i64 1024, .slice A3 3 c3] 39)).alloc
      (.cells #[.slice none 0 0, .slice (some ⟨Q, 0, none⟩) 1 1, .slice (some ⟨Q + 1, 0, none⟩) 3 3, .int .i64 (-1)] 25) := by rw [← hy]; rfl
  have HY := Lib.hid hy
  rw [hwd] at S8
  rw [hQ]
  generalize ((w6.alloc (.cells #[.int .u8 1, .int .i64 3, .int .i64 0] 57)).alloc
          (.cells #[.slice (some ⟨w.heap.size, 0, none⟩) 1 1, .slice none 0 0, .int .u8 1, .bool false, .int .i64 1048576, .int .i64 256, .int .i64 1024, .slice A1 2 c1, .slice none 0 0, .slice none 0 0, .int .u8 1, .bool false, .int .i64 1048576, .int .i64 256, .int .i64 1024, .slice A2 7 c2, .slice none 0 0, .slice none 0 0, .int .u8 1, .bool false, .int .i64 1048576, .int .i64 256, .int .i64 1024, .slice A3 3 c3] 39)).alloc
      (.cells #[.slice none 0 0, .slice (some ⟨Q, 0, none⟩) 1 1, .slice (some ⟨Q + 1, 0, none⟩) 3 3, .int .i64 (-1)] 25) = w9 at S8 ⊢
  rw [hR2]
  clear ho1 ho2 S7 hq hwd hR hR2 hQ hy S3
  obtain ⟨-, ⟨d0, d1, d2, d3, d4⟩, -⟩ := S8.out
  have HCC := Lib.hid (costs12_v y md12 w9 S8.out.2.2.1 (by decide))
  go_wp2_with fail
  refine HCC.out.mono ?_
  rintro r w10 ⟨A, c, rfl, ho, hb⟩
  have HB10 := Lib.hid (S8.out.call hb).1
  rw [HCO.out] at ho ⊢
  dsimp only [List.length_cons, List.length_nil, Nat.zero_add, Nat.reduceAdd] at ho ⊢
  have hrg := (Rg.of_own ce3_len (by omega) ho).1
  obtain ⟨g, hA, hg, q0⟩ := hrg.at_ ce3_len (i := 0) rfl
  obtain ⟨g', hA', -, q1⟩ := hrg.at_ ce3_len (i := 1) rfl
  obtain ⟨g'', hA'', -, q2⟩ := hrg.at_ ce3_len (i := 2) rfl
  rw [hA] at hA' hA''
  injection hA' with hA'
  injection hA' with hA'
  injection hA'' with hA''
  injection hA'' with hA''
  subst hA' hA'' hA
  have a0 := q0 0 (by omega)
  have a1 := q0 1 (by omega)
  have a2 := q0 2 (by omega)
  have b0 := q1 0 (by omega)
  have b1 := q1 1 (by omega)
  have b2 := q1 2 (by omega)
  have e0 := q2 0 (by omega)
  have e1 := q2 1 (by omega)
  have e2 := q2 2 (by omega)
  simp only [ce3, List.getElem?_cons_zero, List.getElem?_cons_succ, Nat.zero_mul, Nat.one_mul, Nat.add_zero, Nat.zero_add, Nat.reduceAdd, Nat.reduceMul] at a0 a1 a2 b0 b1 b2 e0 e1 e2
  have E0 := eq_cert 9998 2 2 0 2 2 0 true rfl
  have E1 := eq_cert 9998 15 1 12 15 1 12 true rfl
  have E2 := eq_cert 9998 5 2 0 5 2 0 true rfl
  clear HCC ho hb hrg q0 q1 q2 S8 d0 d1 d2 d3 d4
  go_wp2_with fail
  go_ret
  exact ⟨rfl, HB10.out⟩
end Go.Proofs.YtmgppdjbmhjmbaaGreat
