/-
  Jk, Jl, Jr, Jp, Js, Jt, Jv, Jw: in one text.
-/
import Derived.Test.YtmgppdjbmhjmbaaGreatLu
import Derived.Test.YtmgppdjbmhjmbaaGreatLjc
import Derived.Test.YtmgppdjbmhjmbaaGreatLz
import Derived.Test.YtmgppdjbmhjmbaaGreatLm
import Derived.Test.YtmgppdjbmhjmbaaGreatLja
import Derived.Test.YtmgppdjbmhjmbaaGreatLeg
import Derived.BigQuiet
namespace Go.Proofs.YtmgppdjbmhjmbaaGreat
open Go.RowKit
set_option maxRecDepth 100000
set_option linter.unusedSimpArgs false
set_option linter.unusedVariables false

set_option maxHeartbeats 4000000 in
theorem row12_v (A : Option Addr) (c n : Nat) (L : List Ins) (w : World) (hr : Rn w A c (two9 L)) (hn : 2 * L.length = n) (hl : n ≤ 1000) (hok : ∀ x ∈ L, InOk x ∧ x.2.2 = 0) :
    Calls Tryz.prog 28 #[.slice A n c] w fun r w' => ∃ A' c', r = .returned (.slice A' L.length c') ∧ w'.ownsRow w.heap.size 67 3 (.slice A' L.length c') L.length (cei L) ∧ Below w.heap.size w w' := by
  have HR := Lib.hid hr
  have HKK := Lib.hid hok
  have hcap := hr.1
  rw [two9_len] at hcap
  have hmax := hr.2.1
  unfold maxLen at hmax
  clear hr hok
  go_enter Tryz.func28, Tryz.ntmps28
  go_wp2_with fail
  go_loopw [3, 4] (fun o i wr => ∃ (j k : Nat) (A' : Option Addr) (c' : Nat), j ≤ L.length ∧ i = .int .i64 k ∧ Hid (k = 2 * j) ∧ o = .slice A' j c' ∧ Hid (wr.ownsRow w.heap.size 67 3 (.slice A' j c') j (cei (L.take j))) ∧ Hid (Below w.heap.size w wr)) (fun _ i _ => n - (intOf i).toNat)
  case atStart => exact ⟨0, 0, none, 0, by omega, rfl, Lib.hid rfl, rfl, Lib.hid (World.ownsRow_nil _ _ _ _), Lib.hid (Below.refl _ _)⟩
  case round =>
    obtain ⟨j, k, A1, c1, hj, rfl, HK, rfl, HO, HB⟩ := hrel
    have hkb : k ≤ 1000 := by have := HK.out; omega
    have hk3 : (0 : Int) ≤ (k : Int) + 1 := by omega
    have hwr : IntKind.i64.wrap ((k : Int) + 1) = ((k + 1 : Nat) : Int) := by
      simp [IntKind.wrap, IntKind.signed, IntKind.bits, go_sem]
      omega
    by_cases h1 : j < L.length
    · obtain ⟨x, hx0⟩ : ∃ x, L[j] = x := ⟨_, rfl⟩
      have hx := Lib.hid hx0
      have HOK : Hid (InOk x) := by have := (HKK.out L[j] (List.getElem_mem h1)).1; rwa [hx0] at this
      have hB0 := (HKK.out L[j] (List.getElem_mem h1)).2
      rw [hx0] at hB0
      have hx0 := hB0
      clear hB0
      obtain ⟨t1, t2⟩ := two9_at (L := L) (i := j) (x := x) (by rw [List.getElem?_eq_getElem h1, hx.out])
      rw [← HK.out] at t1 t2
      have hk1 : k < n := by have := HK.out; omega
      have hk2 : k + 1 < n := by have := HK.out; omega
      obtain ⟨ad, rfl, s0⟩ := HR.out.at_ t1
      have SN : Hid (∀ w', Below w.heap.size w w' → Rn w' (some ad) c (two9 L) ∧ w'.cell? (ad.add k) = some (.int .i64 x.1) ∧ w'.cell? ⟨ad.block, ad.off + (k + 1), none⟩ = some (.int .i64 x.2.1) ∧ True) := Lib.hid fun w' hb => by
        have h := HR.out.keep hb
        obtain ⟨a1, e1, k1⟩ := h.at_ t1
        obtain ⟨a2, e2, k2⟩ := h.at_ t2
        injection e1 with e1
        injection e2 with e2
        subst e1 e2
        rw [add_succ9] at k2
        exact ⟨h, k1, k2, trivial⟩
      have SR : Hid (Below w.heap.size w wr.drew ∧ Rn wr.drew (some ad) c (two9 L) ∧ wr.drew.cell? (ad.add k) = some (.int .i64 x.1) ∧ wr.drew.cell? ⟨ad.block, ad.off + (k + 1), none⟩ = some (.int .i64 x.2.1) ∧ True) := Lib.hid ⟨below_draws HB.out 1, SN.out _ (below_draws HB.out 1)⟩
      have hm : IntKind.u8.wrap x.1 = x.1 := by
        have := HOK.out.1
        simp [IntKind.wrap, IntKind.signed, IntKind.bits, go_sem]
        omega
      clear t1 t2 s0
      go_upto_region 5 with (fail)
      refine wp_region_held_drew (S := fun w' => Hid (Below w.heap.size w w' ∧ Rn w' (some ad) c (two9 L) ∧ w'.cell? (ad.add k) = some (.int .i64 x.1) ∧ w'.cell? ⟨ad.block, ad.off + (k + 1), none⟩ = some (.int .i64 x.2.1) ∧ True)) (by kernel_rfl) (SR) (fun hHeld => ?_)
      refine wpAnyH_take (i := 0) (v := ?_) rfl (by kernel_rfl) (by kernel_rfl) (by kernel_rfl) (fun _ _ _ h => h) (Or.inl ⟨by rfl, ?_⟩) (by assumption) ?_
      rotate_left 1
      · intro w _; go_simp; try with_reducible rfl
      try simp only [Act.put, List.getElem_toArray, List.getElem_cons_zero, List.getElem_cons_succ, List.setIfInBounds_toArray, List.set_cons_zero, List.set_cons_succ]
      refine wpAnyH_take (i := 1) (v := ?_) rfl (by kernel_rfl) (by kernel_rfl) (by kernel_rfl) (fun _ _ _ h => h) (Or.inl ⟨by rfl, ?_⟩) (by assumption) ?_
      rotate_left 1
      · intro w _; go_simp; try with_reducible rfl
      try simp only [Act.put, List.getElem_toArray, List.getElem_cons_zero, List.getElem_cons_succ, List.setIfInBounds_toArray, List.set_cons_zero, List.set_cons_succ]
      refine wpAnyH_take (i := 2) (v := ?_) rfl (by kernel_rfl) (by kernel_rfl) (by kernel_rfl) (fun _ _ _ h => h) (Or.inl ⟨by rfl, ?_⟩) (by assumption) ?_
      rotate_left 1
      · intro w _; go_simp; try with_reducible rfl
      try simp only [Act.put, List.getElem_toArray, List.getElem_cons_zero, List.getElem_cons_succ, List.setIfInBounds_toArray, List.set_cons_zero, List.set_cons_succ]
      refine wpAnyH_take (i := 3) (v := ?_) rfl (by kernel_rfl) (by kernel_rfl) (by kernel_rfl) (fun _ _ _ h => h) (Or.inl ⟨by rfl, ?_⟩) (by assumption) ?_
      rotate_left 1
      · intro w _; go_simp; try with_reducible rfl
      try simp only [Act.put, List.getElem_toArray, List.getElem_cons_zero, List.getElem_cons_succ, List.setIfInBounds_toArray, List.set_cons_zero, List.set_cons_succ]
      refine wpAnyH_take (i := 4) (v := ?_) rfl (by kernel_rfl) (by kernel_rfl) (by kernel_rfl) (fun _ _ _ h => h) (Or.inl ⟨by rfl, ?_⟩) (by assumption) ?_
      rotate_left 1
      · intro w hSw; (try dsimp only at hSw); obtain ⟨-, -, s0, s1, -⟩ := hSw.out; go_simp; try with_reducible rfl
      try simp only [Act.put, List.getElem_toArray, List.getElem_cons_zero, List.getElem_cons_succ, List.setIfInBounds_toArray, List.set_cons_zero, List.set_cons_succ]
      refine wpAnyH_take (i := 5) (v := ?_) rfl (by kernel_rfl) (by kernel_rfl) (by kernel_rfl) (fun _ _ _ h => h) (Or.inl ⟨by rfl, ?_⟩) (by assumption) ?_
      rotate_left 1
      · intro w hSw; (try dsimp only at hSw); obtain ⟨-, -, s0, s1, -⟩ := hSw.out; go_simp; try with_reducible rfl
      try simp only [Act.put, List.getElem_toArray, List.getElem_cons_zero, List.getElem_cons_succ, List.setIfInBounds_toArray, List.set_cons_zero, List.set_cons_succ]
      refine wpAnyH_take (i := 6) (v := ?_) rfl (by kernel_rfl) (by kernel_rfl) (by kernel_rfl) (fun _ _ _ h => h) (Or.inl ⟨by rfl, ?_⟩) (by assumption) ?_
      rotate_left 1
      · intro w _; go_simp; try with_reducible rfl
      try simp only [Act.put, List.getElem_toArray, List.getElem_cons_zero, List.getElem_cons_succ, List.setIfInBounds_toArray, List.set_cons_zero, List.set_cons_succ]
      refine wpAnyH_take (i := 7) (v := ?_) rfl (by kernel_rfl) (by kernel_rfl) (by kernel_rfl) (fun _ _ _ h => h) (Or.inl ⟨by rfl, ?_⟩) (by assumption) ?_
      rotate_left 1
      · intro w _; go_simp; try with_reducible rfl
      try simp only [Act.put, List.getElem_toArray, List.getElem_cons_zero, List.getElem_cons_succ, List.setIfInBounds_toArray, List.set_cons_zero, List.set_cons_succ]
      refine wpAnyH_take (i := 8) (v := ?_) rfl (by kernel_rfl) (by kernel_rfl) (by kernel_rfl) (fun _ _ _ h => h) (Or.inl ⟨by rfl, ?_⟩) (by assumption) ?_
      rotate_left 1
      · intro w _; go_simp; try with_reducible rfl
      try simp only [Act.put, List.getElem_toArray, List.getElem_cons_zero, List.getElem_cons_succ, List.setIfInBounds_toArray, List.set_cons_zero, List.set_cons_succ]
      refine wpAnyH_take (i := 9) (v := ?_) rfl (by kernel_rfl) (by kernel_rfl) (by kernel_rfl) (fun _ _ _ h => h) (Or.inl ⟨by rfl, ?_⟩) (by assumption) ?_
      rotate_left 1
      · intro w _; go_simp; try with_reducible rfl
      try simp only [Act.put, List.getElem_toArray, List.getElem_cons_zero, List.getElem_cons_succ, List.setIfInBounds_toArray, List.set_cons_zero, List.set_cons_succ]
      refine wpAnyH_take (i := 10) (v := ?_) rfl (by kernel_rfl) (by kernel_rfl) (by kernel_rfl) (fun _ _ _ h => h) (Or.inl ⟨by rfl, ?_⟩) (by assumption) ?_
      rotate_left 1
      · intro w hSw; (try dsimp only at hSw); obtain ⟨-, -, s0, s1, -⟩ := hSw.out; go_simp; try with_reducible rfl
      try simp only [Act.put, List.getElem_toArray, List.getElem_cons_zero, List.getElem_cons_succ, List.setIfInBounds_toArray, List.set_cons_zero, List.set_cons_succ]
      refine wpAnyH_take (i := 11) (v := ?_) rfl (by kernel_rfl) (by kernel_rfl) (by kernel_rfl) (fun _ _ _ h => h) (Or.inl ⟨by rfl, ?_⟩) (by assumption) ?_
      rotate_left 1
      · intro w _; go_simp; try with_reducible rfl
      try simp only [Act.put, List.getElem_toArray, List.getElem_cons_zero, List.getElem_cons_succ, List.setIfInBounds_toArray, List.set_cons_zero, List.set_cons_succ]
      refine wpAnyH_ready (rs := [12]) (by kernel_rfl) (by simp) ?_
      refine AllReadyH.cons rfl (fun K hK => ?_) AllReadyH.nil
      go_simp
      have R4 := Lib.hid (Ri.drewN (ri_new wr x HOK.out) 1)
      have O4 := Lib.hid (own_below HO.out (below_draws (new1 (a := .cells #[.int .u8 x.1, .int .i64 x.2.1, .int .i64 0] 67)) 1) (Nat.le_refl _))
      rw [hx0] at R4
      have B4 := Lib.hid (HB.out.trans ((below_draws (new1 (w := wr) (a := .cells #[.int .u8 x.1, .int .i64 x.2.1, .int .i64 0] 67)) 1).mono HB.out.size))
      refine hK.out _ _ (Lib.hid ⟨B4.out, SN.out _ B4.out⟩) (fun hHeld => ?_)
      clear hK K
      try simp only [Act.put, List.getElem_toArray, List.getElem_cons_zero, List.getElem_cons_succ, List.setIfInBounds_toArray, List.set_cons_zero, List.set_cons_succ]
      refine wpAnyH_ready (rs := [13]) (by kernel_rfl) (by simp) ?_
      refine AllReadyH.cons rfl (fun K hK => ?_) AllReadyH.nil
      refine step_append_ri rfl (.tmp 12) (.tmp 24) rfl w.heap.size _ j (L.take j) rfl O4.out _ 1 1 [x] rfl R4.out rfl (by omega) B4.out.size ?_
      intro A9 c9 w9 ho hg hb
      have O9 := Lib.hid ho
      have B9 := Lib.hid (B4.out.trans hb)
      clear ho hg
      refine hK.out _ _ (Lib.hid ⟨B9.out, SN.out _ B9.out⟩) (fun hHeld => ?_)
      clear hK K
      try simp only [Act.put, List.getElem_toArray, List.getElem_cons_zero, List.getElem_cons_succ, List.setIfInBounds_toArray, List.set_cons_zero, List.set_cons_succ]
      refine wpAnyH_take (i := 14) (v := ?_) rfl (by kernel_rfl) (by kernel_rfl) (by kernel_rfl) (fun _ _ _ h => h) (Or.inl ⟨by rfl, ?_⟩) (by assumption) ?_
      rotate_left 1
      · intro w _; go_simp; try with_reducible rfl
      try simp only [Act.put, List.getElem_toArray, List.getElem_cons_zero, List.getElem_cons_succ, List.setIfInBounds_toArray, List.set_cons_zero, List.set_cons_succ]
      refine wpAnyH_done (by kernel_rfl) ?_ _
      clear hHeld
      have HO9 : Hid (w9.ownsRow w.heap.size 67 3 (.slice A9 (j + 1) c9) (j + 1) (cei (L.take (j + 1)))) := by
        have h := O9.out
        rw [Hid, List.take_add_one, List.getElem?_eq_getElem h1, hx.out]
        exact h
      go_wp2_with fail
      go_roundw
      case rel => exact ⟨j + 1, k + 2, A9, c9, by omega, by go_num, Lib.hid (by have := HK.out; omega), rfl, HO9, B9⟩
      case measure => simp [intOf]; omega
    · obtain rfl : j = L.length := by omega
      have hk1 : ¬ k + 1 < n := by have := HK.out; omega
      rw [List.take_of_length_le (Nat.le_refl _)] at HO
      go_wp2_with fail
      go_ret
      exact ⟨A1, c1, rfl, HO.out, HB.out⟩
end Go.Proofs.YtmgppdjbmhjmbaaGreat
namespace Go.Proofs.YtmgppdjbmhjmbaaGreat
open Go.RowKit
set_option maxRecDepth 100000
set_option linter.unusedSimpArgs false
set_option linter.unusedVariables false

/-- A method that declares as much as may be. -/
def dm12 (a : List Int) : Mh := ⟨a, [], 1, false, 1048576, 256, 1024⟩
theorem dec_end12 (tm : Array Value) (w' : World) (T : Nat) (x : Mc) (m : Mh) (hT : tm[4]?.getD undef = .pointer (some ⟨T, 0, none⟩)) (hM : Mb w' T x m) (R : Ending → World → Prop)
    (hR : R (.returned (mv x m)) w') : bodyPost Tryz.prog Tryz.f17 R .ret { tmps := tm, defers := [] } w' := by
  obtain ⟨h0, c1, c2, c3, c4, c5, c6, c7, c8⟩ := hM
  exact bodyPost_ret (v := mv x m) (by simp [results, Tryz.results17, go_sem, hT, c1, c2, c3, c4, c5, c6, c7, c8]) rfl hR
theorem own_put812 {w : World} {base e size n B : Nat} {v : Value} {xs : List Value} (h : w.ownsRow base e size v n xs) (hB : B < base) (x : Mc) (m : Mh) : (put8 w B x m).ownsRow base e size v n xs :=
  ownsRow_setCell_below (ownsRow_setCell_below (ownsRow_setCell_below (ownsRow_setCell_below (ownsRow_setCell_below (ownsRow_setCell_below (ownsRow_setCell_below (ownsRow_setCell_below h (a := ⟨B, 0, none⟩) hB _) (a := ⟨B, 1, none⟩) hB _) (a := ⟨B, 2, none⟩) hB _) (a := ⟨B, 3, none⟩) hB _) (a := ⟨B, 4, none⟩) hB _) (a := ⟨B, 5, none⟩) hB _) (a := ⟨B, 6, none⟩) hB _) (a := ⟨B, 7, none⟩) hB _
set_option maxHeartbeats 4000000 in
theorem declared12_v (A : Option Addr) (c : Nat) (a : List Int) (D : Option Addr) (dc n : Nat) (L : List Ins) (w : World) (ha : Rd w A c a) (hr : Rn w D dc (two9 L)) (hn : 2 * L.length = n) (hl : n ≤ 1000) (hok : ∀ x ∈ L, InOk x ∧ x.2.2 = 0) :
    Calls Tryz.prog 17 #[.slice A a.length c, .slice D n dc] w fun r w' => ∃ A' c', r = .returned (mv ⟨A, c, none, 0, A', L.length, c'⟩ (dm12 a)) ∧ Hd w' ⟨A, c, none, 0, A', L.length, c'⟩ (dm12 a) ∧ Ri w' A' c' L ∧ Below w.heap.size w w' := by
  obtain ⟨B, hB⟩ : ∃ B, w.heap.size = B := ⟨_, rfl⟩
  have hb0 : Below w.heap.size w (w.alloc (hcel Mc.zero Mh.zero)) := new1
  have HM0 : Hid (Mb (w.alloc (hcel Mc.zero Mh.zero)) B Mc.zero Mh.zero) := Lib.hid (by rw [← hB]; exact Mb.new w _ _)
  have HRW := Lib.hid (row12_v D dc n L _ (hr.keep hb0) hn hl hok)
  have HA := Lib.hid (ha.keep hb0)
  have HF0 : Hid (Mf (w.alloc (hcel Mc.zero Mh.zero)) B) := Lib.hid (by rw [← hB]; exact Mf.new w _ _)
  have HB0 := Lib.hid hb0
  have HAW := Lib.hid ha
  have HOKK : Hid (∀ x ∈ L, InOk x) := Lib.hid (fun x hx => (hok x hx).1)
  have HBB := Lib.hid hB
  clear hr ha hb0 hok
  go_enter Tryz.func17, Tryz.ntmps17
  go_upto_region 1 with (fail)
  change Code.wp _ _ _ _ (w.alloc (hcel Mc.zero Mh.zero))
  have hsz : B < (w.alloc (hcel Mc.zero Mh.zero)).heap.size := by rw [size1, hB]; omega
  clear hB
  generalize w.alloc (hcel Mc.zero Mh.zero) = w1 at HRW HA HB0 HM0 HF0 hsz ⊢
  go_wp2_with fail
  refine HRW.out.mono ?_
  rintro r w2 ⟨A', c', rfl, ho, hb⟩
  have HM2 := Lib.hid (HM0.out.keep hb)
  have HF2 := Lib.hid (HF0.out.keep hb)
  have HO2 := Lib.hid (own_put812 ho hsz ⟨A, c, none, 0, A', L.length, c'⟩ (dm12 a))
  have HB2 := Lib.hid (put8_below (below_on HB0.out hb) (show w.heap.size ≤ B by rw [HBB.out]; exact Nat.le_refl _) ⟨A, c, none, 0, A', L.length, c'⟩ (dm12 a))
  have HM3 := Lib.hid (put8_mb HM2.out ⟨A, c, none, 0, A', L.length, c'⟩ (dm12 a))
  clear HRW ho hb
  obtain ⟨h0, c0, c1, c2, c3, c4, c5, c6, c7⟩ := HM2.out
  obtain ⟨f0, f1, f2, f3, f4, f5, f6, f7⟩ := HF2.out.keepM
  go_wp2_with fail
  refine dec_end12 _ _ B ⟨A, c, none, 0, A', L.length, c'⟩ (dm12 a) rfl HM3.out _ ?_
  exact ⟨A', c', rfl, ⟨HAW.out.keep HB2.out, Rd.none_ _, by unfold Mh.nums dm12; dsimp only; decide⟩, (Ri.of_own HO2.out HOKK.out).1, HB2.out⟩
theorem declared12_lit (A : Option Addr) (c : Nat) (a : List Int) (L : List Ins) (w : World) (n : Nat) (cs : Array Value) (t : Nat) (na : Nat) (hna : a.length = na) (hcs : cs = ((two9 L).map (Value.int .i64)).toArray) (hn : 2 * L.length = n) (hl : n ≤ 1000) (ha : Rd w A c a) (hok : ∀ x ∈ L, InOk x ∧ x.2.2 = 0) :
    Calls Tryz.prog 17 #[.slice A na c, .slice (some ⟨w.heap.size, 0, none⟩) n n] (w.alloc (.cells cs t)) fun r w' => ∃ A' c', r = .returned (mv ⟨A, c, none, 0, A', L.length, c'⟩ (dm12 a)) ∧ Hd w' ⟨A, c, none, 0, A', L.length, c'⟩ (dm12 a) ∧ Ri w' A' c' L ∧ Below w.heap.size w w' := by
  subst hcs hna
  have h := Rn.new w (two9 L) t (by rw [two9_len]; unfold maxLen; omega)
  rw [two9_len, hn] at h
  refine (declared12_v A c a _ n n L _ (ha.keep new1) h hn hl hok).mono ?_
  rintro r w' ⟨A', c', rfl, hd, hri, hb⟩
  exact ⟨A', c', rfl, hd, hri, new1.trans (hb.mono (by rw [size1]; omega))⟩
/-- The chapter's examples. -/
def one12 : List Ins := [(2, 0, 0), (31, 0, 0)]
def two12 : List Ins := [(28, 3, 0), (1, 0, 0), (22, 4, 0), (6, 0, 0), (29, 0, 0), (1, 0, 0), (31, 0, 0)]
def three12 : List Ins := [(1, 0, 0), (30, 0, 0), (31, 0, 0)]
def md12 : Md := ⟨[], [(1, 3, 0)], [(dm12 [1], one12), (dm12 [], two12), (dm12 [], three12)], -1⟩
set_option maxHeartbeats 4000000 in
theorem co12_ex : co12 md12 = ([(2, 2, 0), (15, 1, 12), (5, 2, 0)], 0) := by decide +kernel
theorem eq_cert (d : Nat) (k a b k' a' b' : Int) (v : Bool) (h : (k == k' && a == a' && b == b') = v) (w : World) : (Op.equalIn (d + 1 + 1) 44 (.agg #[.int .i64 k, .int .i64 a, .int .i64 b]) (.agg #[.int .i64 k', .int .i64 a', .int .i64 b'])).run Tryz.prog w = .ok v w := by
  have hS : Tryz.prog.underlying 44 = some (.struct (Tryz.prog.fieldsOf 44)) := by kernel_rfl
  have hp : Tryz.prog.stoodInHeld 44 = false := by kernel_rfl
  have u2 := Tryz.underlying3
  have h0 : ∀ u v t : Value, (part 3 #[u, v, t] 0).run Tryz.prog w = .ok u w := fun u v t => by kernel_rfl
  have h1 : ∀ u v t : Value, (part 3 #[u, v, t] 1).run Tryz.prog w = .ok v w := fun u v t => by kernel_rfl
  have h2 : ∀ u v t : Value, (part 3 #[u, v, t] 2).run Tryz.prog w = .ok t w := fun u v t => by kernel_rfl
  rw [run_equalIn_agg w (d + 1) 44 _ _ hS hp]
  simp only [Program.fieldsOf, Tryz.underlying44]
  subst h
  go_simp
  by_cases e1 : k = k' <;> by_cases e2 : a = a' <;> by_cases e3 : b = b' <;> simp [e1, e2, e3]
set_option maxHeartbeats 8000000 in
theorem awake12_v (w : World) : Calls Tryz.prog 6 #[] w fun r w' => r = .returned (.bool true) ∧ Below w.heap.size w w' := by
  have HCO : Hid (co12 md12 = ([(2, 2, 0), (15, 1, 12), (5, 2, 0)], 0)) := Lib.hid co12_ex
  go_enter Tryz.func6, Tryz.ntmps6
  have ha : Rd (w.alloc (.cells #[.int .u8 1] 5)) (some ⟨w.heap.size, 0, none⟩) 1 [1] := own_rd (World.ownsRow_lit (base := w.heap.size) (size := 1) w #[.int .u8 1] 1 (Nat.le_refl _) (by unfold maxLen; omega) rfl) (fun x hx => by rw [List.mem_singleton.1 hx]; decide)
  have HD1 := declared12_lit (some ⟨w.heap.size, 0, none⟩) 1 [1] one12 (w.alloc (.cells #[.int .u8 1] 5)) 4 _ 3 1 rfl rfl rfl (by omega) ha (by unfold one12 InOk; decide)
  rw [size1] at HD1
  have HDD := Lib.hid HD1
  clear ha HD1
  go_wp2_with fail
  refine HDD.out.mono ?_
  rintro r w1 ⟨A1, c1, rfl, hd1, hr1, hb⟩
  have S1 := Lib.hid (((((Sx.start w).call (new1.trans (hb.mono (by omega)))).add (fT A1 c1 one12) hr1).add (fH ⟨some ⟨w.heap.size, 0, none⟩, 1, none, 0, A1, 2, c1⟩ (dm12 [1])) hd1).mkM ⟨some ⟨w.heap.size, 0, none⟩, 1, none, 0, A1, 2, c1⟩ (dm12 [1]))
  obtain ⟨P1, hP1⟩ : ∃ P, w1.heap.size = P := ⟨_, rfl⟩
  rw [hP1] at S1
  clear HDD hd1 hr1 hb
  go_upto_region 3 with (fail)
  change Code.wp _ _ _ _ (w1.alloc (hcel ⟨some ⟨w.heap.size, 0, none⟩, 1, none, 0, A1, 2, c1⟩ (dm12 [1])))
  generalize w1.alloc (hcel ⟨some ⟨w.heap.size, 0, none⟩, 1, none, 0, A1, 2, c1⟩ (dm12 [1])) = w2 at S1 ⊢
  clear hP1
  have HDD := Lib.hid (declared12_lit none 0 [] two12 w2 14 _ 3 0 rfl rfl rfl (by omega) (Rd.none_ _) (by unfold two12 InOk; decide))
  go_wp2_with fail
  refine HDD.out.mono ?_
  rintro r w3 ⟨A2, c2, rfl, hd2, hr2, hb⟩
  have S2 := Lib.hid ((((S1.out.call hb).add (fT A2 c2 two12) hr2).add (fH ⟨none, 0, none, 0, A2, 7, c2⟩ (dm12 [])) hd2).mkM ⟨none, 0, none, 0, A2, 7, c2⟩ (dm12 []))
  obtain ⟨P2, hP2⟩ : ∃ P, w3.heap.size = P := ⟨_, rfl⟩
  rw [hP2] at S2
  clear HDD hd2 hr2 hb S1
  go_upto_region 4 with (fail)
  change Code.wp _ _ _ _ (w3.alloc (hcel ⟨none, 0, none, 0, A2, 7, c2⟩ (dm12 [])))
  generalize w3.alloc (hcel ⟨none, 0, none, 0, A2, 7, c2⟩ (dm12 [])) = w4 at S2 ⊢
  clear hP2
  have HDD := Lib.hid (declared12_lit none 0 [] three12 w4 6 _ 3 0 rfl rfl rfl (by omega) (Rd.none_ _) (by unfold three12 InOk; decide))
  go_wp2_with fail
  refine HDD.out.mono ?_
  rintro r w5 ⟨A3, c3, rfl, hd3, hr3, hb⟩
  have S3 := Lib.hid ((((S2.out.call hb).add (fT A3 c3 three12) hr3).add (fH ⟨none, 0, none, 0, A3, 3, c3⟩ (dm12 [])) hd3).mkM ⟨none, 0, none, 0, A3, 3, c3⟩ (dm12 []))
  obtain ⟨P3, hP3⟩ : ∃ P, w5.heap.size = P := ⟨_, rfl⟩
  rw [hP3] at S3
  clear HDD hd3 hr3 hb S2
  go_upto_region 5 with (fail)
  change Code.wp _ _ _ _ (w5.alloc (hcel ⟨none, 0, none, 0, A3, 3, c3⟩ (dm12 [])))
  generalize w5.alloc (hcel ⟨none, 0, none, 0, A3, 3, c3⟩ (dm12 [])) = w6 at S3 ⊢
  clear hP3
  obtain ⟨-, ⟨t0, t1, t2, t3, t4, t5, t6, t7, t8⟩, -, -, ⟨s0, s1, s2, s3, s4, s5, s6, s7, s8⟩, -, -, ⟨m0, m1, m2, m3, m4, m5, m6, m7, m8⟩, -⟩ := S3.out
  dsimp only [dm12, List.length_cons, List.length_nil] at t1 t2 t3 t4 t5 t6 t7 t8 s1 s2 s3 s4 s5 s6 s7 s8 m1 m2 m3 m4 m5 m6 m7 m8
  go_upto_region 6 with (fail)
  clear t0 t1 t2 t3 t4 t5 t6 t7 t8 s0 s1 s2 s3 s4 s5 s6 s7 s8 m0 m1 m2 m3 m4 m5 m6 m7 m8
  obtain ⟨Q, hQ⟩ : ∃ Q, w6.heap.size = Q := ⟨_, rfl⟩
  obtain ⟨y, hy⟩ : ∃ y : Ma, (⟨none, 0, some ⟨Q, 0, none⟩, 1, some ⟨Q + 1, 0, none⟩, 3, [⟨⟨some ⟨w.heap.size, 0, none⟩, 1, none, 0, A1, 2, c1⟩, dm12 [1], one12⟩, ⟨⟨none, 0, none, 0, A2, 7, c2⟩, dm12 [], two12⟩, ⟨⟨none, 0, none, 0, A3, 3, c3⟩, dm12 [], three12⟩]⟩ : Ma) = y := ⟨_, rfl⟩
  have ho1 := World.ownsRow_lit (base := Q) (e := 57) (size := 3) w6 #[.int .u8 1, .int .i64 3, .int .i64 0] 1 (by omega) (by unfold maxLen; omega) rfl
  rw [hQ] at ho1
  have ho2 := World.ownsRow_lit (base := Q) (e := 39) (size := 8) (w6.alloc (.cells #[.int .u8 1, .int .i64 3, .int .i64 0] 57)) (cem y.Z).toArray 3 (by rw [size1]; omega) (by unfold maxLen; omega) (by rw [← hy]; rfl)
  rw [size1, hQ, List.toList_toArray] at ho2
  have S7 := (S3.out.mk1 (.cells #[.int .u8 1, .int .i64 3, .int .i64 0] 57)).mk1 (.cells (cem y.Z).toArray 39)
  have hq : Hq ((w6.alloc (.cells #[.int .u8 1, .int .i64 3, .int .i64 0] 57)).alloc (.cells (cem y.Z).toArray 39)) y md12 := by
    obtain ⟨-, -, h3, k3, -, h2, k2, -, h1, k1, -⟩ := S7
    refine ⟨?_, ?_, ?_, ?_, ?_⟩
    · rw [← hy]; exact Rv.none_ _
    · have := (Rv.of_own (L := [(1, 3, 0)]) (ho1.alloc (.cells (cem y.Z).toArray 39)) (fun x hx => by rw [List.mem_singleton.1 hx]; unfold VlOk; decide)).1
      rw [← hy] at this ⊢
      exact this
    · have := (Rm.of_own ho2 (fun z hz => by
        rw [← hy] at hz
        simp only [List.mem_cons, List.not_mem_nil, or_false] at hz
        rcases hz with rfl | rfl | rfl
        · exact ⟨h1, k1, rfl⟩
        · exact ⟨h2, k2, rfl⟩
        · exact ⟨h3, k3, rfl⟩)).1
      rw [← hy] at this ⊢
      exact this
    · rw [← hy]; rfl
    · unfold md12; dsimp only; decide
  have S8 := Lib.hid ((S7.add (fQm y md12) hq).mkD y md12)
  obtain ⟨R, hR⟩ : ∃ R, ((w6.alloc (.cells #[.int .u8 1, .int .i64 3, .int .i64 0] 57)).alloc (.cells (cem y.Z).toArray 39)).heap.size = R := ⟨_, rfl⟩
  have hR2 : Q + 2 = R := by rw [← hR, size1, size1, hQ]
  rw [hR] at S8
  have hwd : ((w6.alloc (.cells #[.int .u8 1, .int .i64 3, .int .i64 0] 57)).alloc (.cells (cem y.Z).toArray 39)).alloc (dcel y md12) = ((w6.alloc (.cells #[.int .u8 1, .int .i64 3, .int .i64 0] 57)).alloc
          (.cells #[.slice (some ⟨w.heap.size, 0, none⟩) 1 1, .slice none 0 0, .int .u8 1, .bool false, .int .i64 1048576, .int .i64 256, .int .i64 1024, .slice A1 2 c1, .slice none 0 0, .slice none 0 0, .int .u8 1, .bool false, .int .i64 1048576, .int .i64 256, .int .i64 1024, .slice A2 7 c2, .slice none 0 0, .slice none 0 0, .int .u8 1, .bool false, .int .i64 1048576, .int .i64 256, .int .i64 1024, .slice A3 3 c3] 39)).alloc
      (.cells #[.slice none 0 0, .slice (some ⟨Q, 0, none⟩) 1 1, .slice (some ⟨Q + 1, 0, none⟩) 3 3, .int .i64 (-1)] 25) := by rw [← hy]; rfl
  have HY := Lib.hid hy
  rw [hwd] at S8
  rw [hQ]
  generalize ((w6.alloc (.cells #[.int .u8 1, .int .i64 3, .int .i64 0] 57)).alloc
          (.cells #[.slice (some ⟨w.heap.size, 0, none⟩) 1 1, .slice none 0 0, .int .u8 1, .bool false, .int .i64 1048576, .int .i64 256, .int .i64 1024, .slice A1 2 c1, .slice none 0 0, .slice none 0 0, .int .u8 1, .bool false, .int .i64 1048576, .int .i64 256, .int .i64 1024, .slice A2 7 c2, .slice none 0 0, .slice none 0 0, .int .u8 1, .bool false, .int .i64 1048576, .int .i64 256, .int .i64 1024, .slice A3 3 c3] 39)).alloc
      (.cells #[.slice none 0 0, .slice (some ⟨Q, 0, none⟩) 1 1, .slice (some ⟨Q + 1, 0, none⟩) 3 3, .int .i64 (-1)] 25) = w9 at S8 ⊢
  rw [hR2]
  clear ho1 ho2 S7 hq hwd hR hR2 hQ hy S3
  obtain ⟨-, ⟨d0, d1, d2, d3, d4⟩, -⟩ := S8.out
  have HCC := Lib.hid (costs12_v y md12 w9 S8.out.2.2.1 (by decide))
  go_wp2_with fail
  refine HCC.out.mono ?_
  rintro r w10 ⟨A, c, rfl, ho, hb⟩
  have HB10 := Lib.hid (S8.out.call hb).1
  rw [HCO.out] at ho ⊢
  dsimp only [List.length_cons, List.length_nil, Nat.zero_add, Nat.reduceAdd] at ho ⊢
  have hrg := (Rg.of_own ce3_len (by omega) ho).1
  obtain ⟨g, hA, hg, q0⟩ := hrg.at_ ce3_len (i := 0) rfl
  obtain ⟨g', hA', -, q1⟩ := hrg.at_ ce3_len (i := 1) rfl
  obtain ⟨g'', hA'', -, q2⟩ := hrg.at_ ce3_len (i := 2) rfl
  rw [hA] at hA' hA''
  injection hA' with hA'
  injection hA' with hA'
  injection hA'' with hA''
  injection hA'' with hA''
  subst hA' hA'' hA
  have a0 := q0 0 (by omega)
  have a1 := q0 1 (by omega)
  have a2 := q0 2 (by omega)
  have b0 := q1 0 (by omega)
  have b1 := q1 1 (by omega)
  have b2 := q1 2 (by omega)
  have e0 := q2 0 (by omega)
  have e1 := q2 1 (by omega)
  have e2 := q2 2 (by omega)
  simp only [ce3, List.getElem?_cons_zero, List.getElem?_cons_succ, Nat.zero_mul, Nat.one_mul, Nat.add_zero, Nat.zero_add, Nat.reduceAdd, Nat.reduceMul] at a0 a1 a2 b0 b1 b2 e0 e1 e2
  have E0 := eq_cert 9998 2 2 0 2 2 0 true rfl
  have E1 := eq_cert 9998 15 1 12 15 1 12 true rfl
  have E2 := eq_cert 9998 5 2 0 5 2 0 true rfl
  clear HCC ho hb hrg q0 q1 q2 S8 d0 d1 d2 d3 d4
  go_wp2_with fail
  go_ret
  exact ⟨rfl, HB10.out⟩
end Go.Proofs.YtmgppdjbmhjmbaaGreat
namespace Go.Proofs.YtmgppdjbmhjmbaaGreat
open Go.RowKit
set_option maxRecDepth 100000
set_option linter.unusedSimpArgs false
set_option linter.unusedVariables false

def Oz12 (base : Nat) (w : World) (A : Option Addr) (c : Nat) (Z : List Rx) : Prop := w.ownsRow base 74 2 (.slice A Z.length c) Z.length (cer Z)
set_option maxHeartbeats 4000000 in
theorem clone12_v (ad : Addr) (c m : Nat) (L : List Rx) (w : World) (hr : Rw w (some ad) c L) (hc : 0 < c) (hm : L.length = m) (hl : m ≤ 1000000) : Calls Tryz.prog 31 #[.slice (some ad) m c] w fun e w' => ∃ A' c', e = .returned (.slice A' m c') ∧ Rw w' A' c' L ∧ Oz12 w.heap.size w' A' c' L ∧ Below w.heap.size w w' := by
  have hinfo := Tryz.infoT10
  rw [Option.map_eq_some_iff] at hinfo
  obtain ⟨i, hi, hz⟩ := hinfo
  simp only [Prod.mk.injEq] at hz
  obtain ⟨hz0, hz1, hz2⟩ := hz
  have HO := Lib.hid (show (w.alloc (.cells #[] 74)).ownsRow w.heap.size 74 2 (.slice (some ⟨w.heap.size, 0, none⟩) 0 0) 0 (cer []) from
    World.ownsRow_lit (base := w.heap.size) (e := 74) (size := 2) w #[] 0 (Nat.le_refl _) (by unfold maxLen; simp) (by simp))
  have HR := Lib.hid (hr.keep (new1 (a := .cells #[] 74)))
  have HRW := Lib.hid hr
  have HCE := Lib.hid (rw_cells HR.out hc)
  clear hr
  have q := fun w => nilR10 w (some ad) m c
  have hlen : (cer L).length = m * 2 := by rw [length_cer, hm]
  have HL := Lib.hid hlen
  clear hlen
  go_enter Tryz.func31, Tryz.ntmps31
  go_wp2_with (at_builtin; refine wpList_append_own_at _ rfl (.tmp 5) (.tmp 6) 58 rfl w.heap.size 74 i _ 2 32 Tryz.underlying58 hi hz0 hz1 hz2 rfl (by decide) _ 0 (cer []) rfl HO.out ad m c (cer L) rfl HL.out HCE.out (cer_one3 L) (by unfold maxLen; omega) (by omega) (by simp) ?_)
  intro v' w1 ho hg _ _
  obtain ⟨A', c', rfl⟩ := own_form ho
  have HO1 := Lib.hid ho
  have HB : Hid (Below w.heap.size w w1) := Lib.hid (new1.grown hg (by simp) fun g hg' => (HO.out.lt g hg').1)
  clear ho hg
  go_wp2_with fail
  go_ret
  refine ⟨A', c', by simp, (Rw.of_own (n := m) (Z := L) (by have h := HO1.out; simpa [cer_nil] using h) fun z hz => (HRW.out.1 z hz).keep HB.out).1, by have h := HO1.out; simpa [Oz12, cer_nil, hm] using h, HB.out⟩
/-- What Rows tells, in a row of its own. -/
def Rt12 (w w' : World) (T : List Rz × Int) (e : Ending) : Prop := ∃ A c Z, e = .returned (.tuple #[.slice A Z.length c, .int .i64 T.2]) ∧ Z.map rz = T.1 ∧ Rw w' A c Z ∧ Oz12 w.heap.size w' A c Z ∧ Below w.heap.size w w'
theorem Rt12.err {w w' : World} {T : List Rz × Int} {e : Int} (hT : T = ([], e)) (hb : Below w.heap.size w w') : Rt12 w w' T (.returned (.tuple #[.slice none 0 0, .int .i64 e])) := by
  subst hT
  exact ⟨none, 0, [], rfl, rfl, ⟨fun z hz => (by cases hz), Nat.le_refl _, Nat.zero_le _, .inl ⟨rfl, rfl⟩⟩, World.ownsRow_nil _ _ _ _, hb⟩
set_option maxHeartbeats 8000000 in
theorem trows12_v (y : Ma) (d : Md) (k : Int) (w : World) (hq : Hq w y d) (hg : qG d = false) : Calls Tryz.prog 18 #[dv y d, .int .i64 k] w fun e w' => Rt12 w w' (rw10s d k) e := by
  have S0 := Lib.hid ((((Sx.start w).add (fQm y d) hq).mkD y d))
  have HAL := Lib.hid (hal10 hq hg)
  have HG := Lib.hid hg
  have hzero := (zero_of_info Tryz.infoW10).1
  obtain ⟨zz, hzz⟩ : ∃ zz, (cer (List.replicate 200 zx10)).toArray = zz := ⟨_, rfl⟩
  have HZS : Hid (zz.size = 400) := Lib.hid (by rw [← hzz]; exact cerA_size List.length_replicate)
  rw [hzz] at hzero
  obtain ⟨T, hT⟩ : ∃ T, rw10s d k = T := ⟨_, rfl⟩
  have HT := Lib.hid hT
  rw [hT]
  obtain ⟨B, hB⟩ : ∃ B, w.heap.size = B := ⟨_, rfl⟩
  have HBB := Lib.hid hB
  have hsz1 : (w.alloc (dcel y d)).heap.size = B + 1 := by rw [size1, hB]
  rw [hB] at S0
  clear hq hg hT hzz
  go_enter Tryz.func18, Tryz.ntmps18
  go_upto_region 1 with (fail)
  have S1 := S0
  change Code.wp _ _ _ _ (w.alloc (dcel y d))
  generalize w.alloc (dcel y d) = w1 at S1 hsz1 ⊢
  clear S0
  obtain ⟨-, ⟨d0, d1, d2, d3, d4⟩, -⟩ := S1.out
  have HF := Lib.hid (find_v y d k w1 S1.out.2.2.1 HG.out)
  rw [HT.out] at HF
  go_wp2_with fail
  refine HF.out.mono ?_
  rintro r w2 ⟨cs, E, rfl, hb, hcase⟩
  have HB2 := Lib.hid ((S1.out.call hb).1)
  have S2 := Lib.hid (S1.out.call hb)
  clear HF hb d0 d1 d2 d3 d4 hsz1
  rcases hcase with ⟨h0, rfl, hTE⟩ | ⟨rfl, x, m, L, rfl, hq2, hx, hri, hlk, b1, b2, he, hth, hTT⟩
  · have hne : (E != 0) = true := by simpa using h0
    have HE := Lib.hid (Rt12.err hTE (S2.out.call (new1 (a := .cells zc10 91))).1)
    clear hTE h0
    go_wp2_with fail
    go_ret2
    exact HE.out
  · have S3 := Lib.hid ((((S2.out.add (fT x.D x.e L) hri).add (fH x m) hx).mkS y d x m))
    have HTT := Lib.hid hTT
    have HEE := Lib.hid he
    have HTH := Lib.hid hth
    have HLK := Lib.hid hlk
    have hk2 : x.k ≤ 200 := by rw [← hlk]; exact (codM_all (flE9_zero he).1).2.1
    obtain ⟨D, hD⟩ : ∃ D, w2.heap.size = D := ⟨_, rfl⟩
    rw [hD] at S3
    clear hq2 hx hri he hth hTT hlk S2 S1
    go_upto_region 4 with (fail)
    have S3 : Hid (Sx w (w2.alloc (scel10 y d x m)) [fSc D y d x m, fH x m, fT x.D x.e L, fD B y d, fQm y d]) := S3
    generalize w2.alloc (scel10 y d x m) = w3 at S3 ⊢
    clear hD
    have HR := Lib.hid (rows_v y d x m L w3 S3.out.2.2.2.2.2.1 S3.out.2.2.1 S3.out.2.2.2.1 HLK.out (by omega) (by omega) HAL.out HEE.out HTH.out)
    obtain ⟨e, he⟩ : ∃ e, (rs10s d m L L.length).2 = e := ⟨_, rfl⟩
    have HE := Lib.hid he
    obtain ⟨-, ⟨-, s0, s1, s2, s3, s4, s5, s6, s7, s8, s9, s10, s11⟩, -⟩ := S3.out
    go_wp2_with fail
    refine HR.out.mono ?_
    rintro r w4 ⟨Z, rfl, hl, hrd, hrz, hb⟩
    rw [he] at hrz ⊢
    have S4 := Lib.hid (S3.out.call hb)
    have HZ := Lib.hid hrd
    have HL := Lib.hid hl
    have HRZ := Lib.hid hrz
    clear HR S3 hb hrd hl hrz s0 s1 s2 s3 s4 s5 s6 s7 s8 s9 s10 s11 he
    have HO := Lib.hid (heap_alloc_last w4 (.cells zz 94))
    have HS1 : Hid ((Tryz.prog.info? 94).map (·.size) = some (cer Z).toArray.size) := Lib.hid (by rw [cerA_size HL.out]; exact (zero_of_info Tryz.infoW10).2)
    have HS2 : Hid (zz.size = (cer Z).toArray.size) := Lib.hid (by rw [cerA_size HL.out, HZS.out])
    go_upto_region 5 with (refine wpList_store_row rfl 94 (.tmp 8) (.tmp 21) rfl w4.heap.size (cer Z).toArray rfl rfl 94 zz HO.out HS1.out HS2.out (cer_one2 _) ?_)
    rw [World.setRow_alloc_new]
    obtain ⟨g, hg⟩ : ∃ g, w4.heap.size = g := ⟨_, rfl⟩
    have HW : Hid (Wr (w4.alloc (.cells (cer Z).toArray 94)) 94 g Z) := Lib.hid ⟨by rw [← hg]; exact heap_alloc_last _ _, fun z hz => (HZ.out z hz).keep new1⟩
    have S5 := Lib.hid (S4.out.mk1 (.cells (cer Z).toArray 94))
    rw [hg]
    generalize w4.alloc (.cells (cer Z).toArray 94) = w5 at HW S5 ⊢
    clear HO hg S4 HZ hzero
    by_cases h0 : e = 0
    · subst h0
      have HR0 : Hid ((Z.map rz).take L.length = (rs10s d m L L.length).1) := Lib.hid (HRZ.out rfl)
      have HT0 : Hid (T = ((rs10s d m L L.length).1, 0)) := Lib.hid (by rw [HTT.out, HE.out, if_pos rfl])
      have HLZ : Hid ((Z.take x.k).length = x.k) := Lib.hid (by rw [List.length_take, HL.out]; omega)
      have HCL := Lib.hid (clone12_v ⟨g, 0, none⟩ 200 x.k (Z.take x.k) w5 (HW.out.rwt HL.out hk2) (by omega) (by rw [List.length_take, HL.out]; omega) (by omega))
      obtain ⟨-, ⟨-, s0, s1, s2, s3, s4, s5, s6, s7, s8, s9, s10, s11⟩, -⟩ := S5.out
      have hk200 : (x.k : Int) ≤ 200 := by omega
      have hww5 : w.heap.size ≤ w5.heap.size := S5.out.1.size
      go_wp2_with fail
      refine HCL.out.mono ?_
      rintro r w6 ⟨A', c', rfl, hrw, hoz, hb⟩
      have HOZ := Lib.hid (own_base hoz hww5)
      have HB6 := Lib.hid (S5.out.call hb).1
      have HRW := Lib.hid hrw
      clear hb hrw hoz HCL s0 s1 s2 s3 s4 s5 s6 s7 s8 s9 s10 s11
      go_wp2_with fail
      go_ret2
      exact ⟨A', c', Z.take x.k, by rw [HT0.out, HLZ.out]; rfl, by rw [HT0.out, ← HR0.out, HLK.out, List.map_take], HRW.out, HOZ.out, HB6.out⟩
    · have hne : (e != 0) = true := by simpa using h0
      have HBE := Lib.hid (Rt12.err (w := w) (w' := w5) (T := T) (e := e) (by rw [HTT.out, HE.out, if_neg h0]) S5.out.1)
      go_wp2_with fail
      go_ret2
      exact HBE.out
end Go.Proofs.YtmgppdjbmhjmbaaGreat
namespace Go.Proofs.YtmgppdjbmhjmbaaGreat
open Go.RowKit
set_option maxRecDepth 100000
set_option linter.unusedSimpArgs false
set_option linter.unusedVariables false

/-- The rows of one method, where they lie. -/
structure Rr12 where
  A : Option Addr
  c : Nat
  Z : List Rx
def rr1 (x : Rr12) : List Value := [.slice x.A x.Z.length x.c]
theorem rr1_len (x : Rr12) : (rr1 x).length = 1 := rfl
theorem rr1_one (x : Rr12) : ∀ u ∈ rr1 x, u.oneCell' = true := by
  intro u hu
  simp [rr1] at hu
  rcases hu with rfl
  rfl
/-- A row's cells. -/
def crx (z : Rx) : List Value := [.bool z.r, .slice z.A z.K.length z.c]
theorem crx_len (z : Rx) : (crx z).length = 2 := rfl
theorem crx_cer (Z : List Rx) : clr crx Z = cer Z := rfl
/-- They are those of the module's first methods, each in a row of its own. -/
def Rk12 (base : Nat) (w : World) (d : Md) (R : List Rr12) : Prop := ∀ (j : Nat) x, R[j]? = some x → Oz12 base w x.A x.c x.Z ∧ x.Z.map rz = (rw10s d j).1
theorem Rk12.keep {base : Nat} {w w' : World} {d : Md} {R : List Rr12} (h : Rk12 base w d R) (hb : Below w.heap.size w w') : Rk12 base w' d R := fun j x hx => ⟨own_below (h j x hx).1 hb (Nat.le_refl _), (h j x hx).2⟩
/-- The same, to be read. -/
def Rq12 (w : World) (d : Md) (R : List Rr12) : Prop := ∀ (j : Nat) x, R[j]? = some x → Rg crx 2 w x.A x.c x.Z ∧ x.Z.map rz = (rw10s d j).1
theorem Rq12.keep {w w' : World} {d : Md} {R : List Rr12} (h : Rq12 w d R) (hb : Below w.heap.size w w') : Rq12 w' d R := fun j x hx => ⟨(h j x hx).1.keep hb, (h j x hx).2⟩
theorem Rk12.read {base : Nat} {w : World} {d : Md} {R : List Rr12} (h : Rk12 base w d R) : Rq12 w d R := fun j x hx => ⟨(Rg.of_own crx_len (by omega) (by rw [crx_cer]; exact (h j x hx).1)).1, (h j x hx).2⟩
theorem Tryz.infoRr : (Tryz.prog.info? 58).map (fun i => (i.zero, i.size, i.bytes)) = some (some (.slice none 0 0), 1, 24) := by kernel_rfl
theorem wpList_append_one12 {α : Type} {f : α → List Value} {mm : Nat} (hm : ∀ x, (f x).length = mm) (h1 : ∀ x, ∀ u ∈ f x, u.oneCell' = true) (TS T by_ : Nat) (z : Value) (hT : Tryz.prog.underlying TS = some (.slice T)) (hinfo : (Tryz.prog.info? T).map (fun i => (i.zero, i.size, i.bytes)) = some (some z, mm, by_)) (hzs : z.cells.size = mm) (hm0 : 0 < mm) (hby : by_ ≤ 1000)
    (w : World) {ops : Array Oper} {rest : List Oper} {o : Oper} {a : Act} {Q : Exit → Act → World → Prop} (hgd : o.guard = none) (s x : Operand)
    (ho : o.op = .call { callee := .builtin .append, args := #[s, x], argTypes := #[TS, TS] })
    (base : Nat) (v : Value) (n : Nat) (L : List α) (hs : a.eval s = v) (hown : w.ownsRow base T mm v n (clr f L))
    (ad : Addr) (y : α) (hx : a.eval x = .slice (some ad) 1 1) (hr : ∀ j u, (f y)[j]? = some u → w.cell? (ad.add j) = some u) (hbytes : n + 1 ≤ 1000000) (hbase : base ≤ w.heap.size)
    (h : ∀ A' c' w', w'.ownsRow base T mm (.slice A' (n + 1) c') (n + 1) (clr f (L ++ [y])) → w.grownBy w' v.ownBlock → Below base w w' → wpList Tryz.prog ops Q rest (a.put o.dst (.slice A' (n + 1) c')) w') : wpList Tryz.prog ops Q (o :: rest) a w := by
  rw [Option.map_eq_some_iff] at hinfo
  obtain ⟨i, hi, hz⟩ := hinfo
  simp only [Prod.mk.injEq] at hz
  obtain ⟨hz0, hz1, hz2⟩ := hz
  have hbel : ∀ {w'}, w.grownBy w' v.ownBlock → Below base w w' := fun hg => (Below.refl _ _).grown hg hbase fun g hg' => (hown.lt g hg').1
  refine wpList_append_own_at w hgd s x TS ho base T i z mm by_ hT hi hz0 hz1 hz2 hzs hm0 v n (clr f L) hs hown ad 1 1 (f y) hx (by rw [hm]; omega) hr (h1 y) (by unfold maxLen; omega) (by
    have : (n + 1) * by_ ≤ 1000000 * 1000 := Nat.mul_le_mul hbytes hby
    omega) hbase ?_
  intro v' w' hown' hg _ _
  obtain ⟨A', c', rfl⟩ := own_form hown'
  exact h A' c' w' (by rw [clr_append, show clr f [y] = f y by simp [clr]]; exact hown') hg (hbel hg)
/-- What is known of a method. -/
structure Kn12 (d : Md) (k : Nat) : Prop where
  qg : qG d = false
  lt : k < d.s.length
  co : (co12 d).2 = 0
  fu : (ce12 d k).1 ≤ 5000
/-- What known tells. -/
def Kw12 (w w' : World) (d : Md) (k : Int) (r : Ending) : Prop :=
  (r = .returned (.tuple #[.slice none 0 0, .slice none 0 0, .bool false]) ∧ Below w.heap.size w w') ∨
  (∃ n : Nat, k = n ∧ Kn12 d n ∧ ∃ A c R A2 c2, r = .returned (.tuple #[.slice A d.s.length c, .slice A2 d.s.length c2, .bool true]) ∧ Rg rr1 1 w' A c R ∧ R.length = d.s.length ∧ Rq12 w' d R ∧ Rg ce3 3 w' A2 c2 (cs12 d) ∧ Below w.heap.size w w')
set_option maxHeartbeats 16000000 in
theorem known12_v (y : Ma) (d : Md) (k : Int) (w : World) (hq : Hq w y d) : Calls Tryz.prog 7 #[dv y d, .int .i64 k] w fun r w' => Kw12 w w' d k r := by
  have S0 := Lib.hid ((((Sx.start w).add (fQm y d) hq).mkD y d))
  have HZL := Lib.hid hq.zlen
  obtain ⟨B, hB⟩ : ∃ B, w.heap.size = B := ⟨_, rfl⟩
  have HBB := Lib.hid hB
  rw [hB] at S0
  clear hq
  go_enter Tryz.func7, Tryz.ntmps7
  go_upto_region 1 with (fail)
  change Code.wp _ _ _ _ (w.alloc (dcel y d))
  generalize w.alloc (dcel y d) = w1 at S0 ⊢
  clear hB
  have HGR := Lib.hid (great8_v y d w1 S0.out.2.2.1)
  obtain ⟨-, ⟨d0, d1, d2, d3, d4⟩, -⟩ := S0.out
  go_wp2_with fail
  refine HGR.out.mono ?_
  rintro r w2 ⟨rfl, hb⟩
  have S2 := Lib.hid (S0.out.call hb)
  clear HGR hb S0 d0 d1 d2 d3 d4
  cases hg : qG d with
  | true =>
    have HBF := Lib.hid S2.out.1
    go_wp2_with fail
    refine bodyPost_ret (v := .tuple #[.slice none 0 0, .slice none 0 0, .bool false]) (by simp [results, Tryz.results7, go_sem]) rfl ?_
    exact .inl ⟨rfl, HBF.out⟩
  | false =>
  have HG := Lib.hid hg
  obtain ⟨hs40, hbd⟩ := qG_b12 hg
  have HBD := Lib.hid hbd
  obtain ⟨sl, hsl⟩ : ∃ sl, d.s.length = sl := ⟨_, rfl⟩
  have HSL := Lib.hid hsl
  rw [hsl] at hs40
  clear hg hsl hbd
  obtain ⟨-, ⟨d0, d1, d2, d3, d4⟩, -⟩ := S2.out
  rw [HSL.out] at d3
  by_cases hk0 : k < 0
  · have HBF := Lib.hid S2.out.1
    have e0 : decide (k < 0) = true := by simpa using hk0
    go_wp2_with fail
    refine bodyPost_ret (v := .tuple #[.slice none 0 0, .slice none 0 0, .bool false]) (by simp [results, Tryz.results7, go_sem]) rfl ?_
    exact .inl ⟨rfl, HBF.out⟩
  have e0 : decide (k < 0) = false := by simpa using hk0
  by_cases hks : (sl : Int) ≤ k
  · have HBF := Lib.hid S2.out.1
    have e1 : decide ((sl : Int) ≤ k) = true := by simpa using hks
    go_wp2_with fail
    refine bodyPost_ret (v := .tuple #[.slice none 0 0, .slice none 0 0, .bool false]) (by simp [results, Tryz.results7, go_sem]) rfl ?_
    exact .inl ⟨rfl, HBF.out⟩
  have e1 : decide ((sl : Int) ≤ k) = false := by simpa using hks
  obtain ⟨k, rfl⟩ : ∃ k' : Nat, k = k' := ⟨k.toNat, by omega⟩
  have hkn : k < sl := by omega
  have HC1 := Lib.hid (costs12_v y d w2 S2.out.2.2.1 HG.out)
  rw [dv, HSL.out] at HC1
  go_wp2_with fail
  refine HC1.out.mono ?_
  rintro r w3 ⟨A2, c2, rfl, ho, hb⟩
  have S3 := Lib.hid ((S2.out.call hb).add (fRg ce3 3 A2 c2 (co12 d).1) (Rg.of_own ce3_len (by omega) ho).1)
  clear HC1 ho hb S2 d0 d1 d2 d3 d4 e0 e1
  by_cases he : (co12 d).2 = 0
  case neg =>
    have HBF := Lib.hid S3.out.1
    have b1 : ((co12 d).2 != 0) = true := by simpa using he
    generalize (co12 d).2 = E at *
    go_wp2_with fail
    refine bodyPost_ret (v := .tuple #[.slice none 0 0, .slice none 0 0, .bool false]) (by simp [results, Tryz.results7, go_sem]) rfl ?_
    exact .inl ⟨rfl, HBF.out⟩
  case pos =>
  obtain ⟨a1, a2, a3, a4⟩ := co12_ok he
  have HCO := Lib.hid he
  have HER := Lib.hid a2
  have hcl : (cs12 d).length = sl := by rw [cs12_len, HSL.out]
  rw [a4] at S3 ⊢
  rw [he, hcl]
  have HCL := Lib.hid hcl
  clear a1 a2 a3 a4 he hcl
  obtain ⟨-, ha2, ⟨d0, d1, d2, d3, d4⟩, -⟩ := S3.out
  rw [HSL.out] at d3
  obtain ⟨g, hA2, hgg, hc⟩ := ha2.at_ ce3_len (cs12_at (d := d) (k := k) (by rw [HSL.out]; exact hkn))
  have p0 := hc 0 (by omega)
  simp only [ce3, List.getElem?_cons_zero, Nat.add_zero] at p0
  obtain ⟨fu, hfu⟩ : ∃ fu, (ce12 d k).1 = fu := ⟨_, rfl⟩
  have HFU := Lib.hid hfu
  rw [hfu] at p0
  subst hA2
  clear ha2 hc hfu
  by_cases hf5 : 5000 < fu
  · have HBF := Lib.hid S3.out.1
    have b1 : decide (5000 < fu) = true := by simpa using hf5
    go_wp2_with fail
    refine bodyPost_ret (v := .tuple #[.slice none 0 0, .slice none 0 0, .bool false]) (by simp [results, Tryz.results7, go_sem]) rfl ?_
    exact .inl ⟨rfl, HBF.out⟩
  have b1 : decide (5000 < fu) = false := by simpa using hf5
  go_upto_region 8 with (fail)
  clear d0 d1 d2 d3 d4 p0 b1
  go_loopw [9, 10] (fun rv iv wq => ∃ (i cc : Nat) (A : Option Addr) (R : List Rr12), i ≤ sl ∧ iv = .int .i64 i ∧ rv = .slice A i cc ∧ Hid (R.length = i) ∧ Hid (Rk12 w3.heap.size wq d R) ∧ Hid (wq.ownsRow w3.heap.size 58 1 (.slice A i cc) i (clr rr1 R)) ∧ Hid (Below w3.heap.size w3 wq)) (fun _ iv _ => sl - (intOf iv).toNat)
  case atStart => exact ⟨0, 0, none, [], by omega, rfl, rfl, Lib.hid rfl, Lib.hid (fun j x h => by simp at h), Lib.hid (World.ownsRow_nil _ _ _ _), Lib.hid (Below.refl _ _)⟩
  case round =>
    obtain ⟨i, cc, A, R, hi, rfl, rfl, HL, HR, HO, HB⟩ := hrel
    rename World => wq
    have SQ := Lib.hid (S3.out.call HB.out)
    obtain ⟨-, -, ⟨d0, d1, d2, d3, d4⟩, -⟩ := SQ.out
    rw [HSL.out] at d3
    have hwq : w3.heap.size ≤ wq.heap.size := HB.out.size
    by_cases h1 : i < sl
    · have HT := Lib.hid (trows12_v y d i wq SQ.out.2.2.2.1 HG.out)
      rw [dv, HSL.out] at HT
      have HE0 : Hid ((rw10s d i).2 = 0) := Lib.hid (er12_at HER.out i (by rw [HSL.out]; exact h1))
      obtain ⟨n', h', c', e1, e2, e3, hfl, hth, hln, hin⟩ := rw10s_ok HE0.out
      have hin2 : i = n' := by omega
      subst hin2
      go_wp2_with fail
      refine HT.out.mono ?_
      rintro r w5 ⟨AR, cR, ZR, rfl, hzr, -, hoz, hb⟩
      rw [HE0.out]
      have HOZ := Lib.hid (own_base hoz hwq)
      have HZR := Lib.hid hzr
      have hzl : ZR.length = c'.length := by have := congrArg List.length hzr; rw [List.length_map] at this; omega
      have S5 := Lib.hid (SQ.out.call hb)
      have HR5 := Lib.hid (HR.out.keep hb)
      have HO5 := Lib.hid (own_below HO.out hb (Nat.le_refl _))
      have HB5 := Lib.hid (HB.out.trans (hb.mono hwq))
      have hw5 : w3.heap.size ≤ w5.heap.size := HB5.out.size
      clear HT hoz hzr hb SQ HR HO HB d0 d1 d2 d3 d4
      obtain ⟨-, -, ⟨d0, d1, d2, d3, d4⟩, -⟩ := S5.out
      rw [HSL.out] at d3
      obtain ⟨ad8, e8, hat, hok⟩ := S5.out.2.2.2.1.2.2.1.at_ (i := i) (by rw [S5.out.2.2.2.1.zlen, HSL.out]; exact h1)
      have hme := S5.out.2.2.2.1.zat (i := i) (by rw [S5.out.2.2.2.1.zlen, HSL.out]; exact h1) (by rw [HSL.out]; exact h1)
      obtain ⟨zm, hzm⟩ : ∃ zm, y.Z[i]'(by rw [S5.out.2.2.2.1.zlen, HSL.out]; exact h1) = zm := ⟨_, rfl⟩
      rw [hzm] at hat hme hok
      have hcx : zm.x.k = ZR.length := by
        have h2 := hok.2.2
        have h3 : d.s[i]? = some (zm.m, zm.k) := by rw [List.getElem?_eq_getElem (by rw [HSL.out]; exact h1), hme]
        rw [e3] at h3
        injection h3 with h3
        have : c' = zm.k := congrArg Prod.snd h3
        rw [hzl, this, h2]
      have g7 := hat.2.2.2.2.2.2.2
      rw [hcx] at g7
      rw [e8] at d3
      have HE8 := Lib.hid e8
      clear e1 e2 e3 hfl hth hln hin hat hok hme hzm hcx hzl e8
      obtain ⟨zn, hzn⟩ : ∃ zn, ZR.length = zn := ⟨_, rfl⟩
      have HZN := Lib.hid hzn
      rw [hzn] at g7 ⊢
      clear hzn
      have HCE : Hid (∀ q u, (rr1 ⟨AR, cR, ZR⟩)[q]? = some u → (w5.alloc (.cells #[.slice AR zn cR] 58)).cell? ((⟨w5.heap.size, 0, none⟩ : Addr).add q) = some u) := Lib.hid (fun q u hq => by
        match q, hq with
        | 0, hq => simp [rr1] at hq; subst hq; rw [HZN.out]; simp [go_sem, Addr.add]
        | q + 1, hq => simp [rr1] at hq)
      have hnn9 : i + 1 ≤ 1000000 := by omega
      have hwa5 : w3.heap.size ≤ (w5.alloc (.cells #[.slice AR zn cR] 58)).heap.size := by rw [size1]; omega
      have HWA5 := Lib.hid hwa5
      clear hwa5
      go_wp2_with (at_builtin; refine wpList_append_one12 rr1_len rr1_one _ _ 24 _ Tryz.underlying27 Tryz.infoRr rfl (by decide) (by decide) _ rfl (.tmp 76) (.tmp 78) rfl w3.heap.size _ i R rfl (HO5.out.alloc _) _ ⟨AR, cR, ZR⟩ rfl HCE.out hnn9 HWA5.out ?_)
      intro A3 c3 w6 ho6 hg6 hb6
      have HB6 : Hid (Below w3.heap.size w3 w6) := Lib.hid (HB5.out.trans ((new1.mono hw5).trans hb6))
      have HO6 := Lib.hid ho6
      have HR6 : Hid (Rk12 w3.heap.size w6 d (R ++ [⟨AR, cR, ZR⟩])) := Lib.hid (fun j x hx => by
        have hkeep : ∀ x : Rr12, Oz12 w3.heap.size w5 x.A x.c x.Z → Oz12 w3.heap.size w6 x.A x.c x.Z := fun x hx => own_grown (own_below hx new1 (Nat.le_refl _)) (HO5.out.alloc _) (by decide) hg6
        rw [List.getElem?_append] at hx
        split at hx
        · obtain ⟨q1, q2⟩ := HR5.out j x hx
          exact ⟨hkeep x q1, q2⟩
        · rename_i hj
          rw [HL.out] at hj
          have hjl := (List.getElem?_eq_some_iff.1 hx).1
          rw [HL.out] at hjl
          simp only [List.length_cons, List.length_nil] at hjl
          have hji : j = i := by omega
          subst hji
          rw [HL.out, Nat.sub_self] at hx
          injection hx with hx
          subst hx
          exact ⟨hkeep ⟨AR, cR, ZR⟩ HOZ.out, HZR.out⟩)
      have HL6 : Hid ((R ++ [(⟨AR, cR, ZR⟩ : Rr12)]).length = i + 1) := Lib.hid (by rw [List.length_append, HL.out]; rfl)
      clear ho6 hg6 hb6 HO5 HR5 HB5
      go_wp2_with fail
      exact ⟨⟨i + 1, c3, A3, R ++ [⟨AR, cR, ZR⟩], by omega, by go_num, rfl, HL6, HR6, HO6, HB6⟩, by simp [intOf]; omega⟩
    · obtain rfl : sl = i := by omega
      have HBF := Lib.hid SQ.out.1
      have HRG := Lib.hid (Rg.of_own rr1_len (by omega) HO.out).1
      have HQ2 := Lib.hid SQ.out.2.1
      have HKN : Hid (Kn12 d k) := Lib.hid ⟨HG.out, by rw [HSL.out]; exact hkn, HCO.out, by rw [HFU.out]; omega⟩
      go_wp2_with fail
      refine bodyPost_ret (v := .tuple #[.slice A sl cc, .slice (some ⟨g, 0, none⟩) sl c2, .bool true]) (by simp [results, Tryz.results7, go_sem]) rfl ?_
      exact .inr ⟨k, rfl, HKN.out, A, cc, R, some ⟨g, 0, none⟩, c2, by rw [HSL.out], HRG.out, by rw [HL.out, HSL.out], HR.out.read, HQ2.out, HBF.out⟩
end Go.Proofs.YtmgppdjbmhjmbaaGreat
namespace Go.Proofs.YtmgppdjbmhjmbaaGreat
open Go.RowKit
set_option maxRecDepth 100000
set_option linter.unusedSimpArgs false
set_option linter.unusedVariables false

/-- A frame, and in which block its turns lie. -/
structure Ff12 where
  z : Fz
  g : Nat
def f312 (d : Md) (x : Ff12) : List Value := [.int .i64 x.z.k, .int .i64 x.z.p, .slice (some ⟨x.g, 0, none⟩) (fo12 d x.z).length (fo12 d x.z).length]
theorem f312_len (d : Md) (x : Ff12) : (f312 d x).length = 3 := rfl
theorem f312_one (d : Md) (x : Ff12) : ∀ u ∈ f312 d x, u.oneCell' = true := by
  intro u hu
  simp [f312] at hu
  rcases hu with rfl | rfl | rfl <;> rfl
/-- Block g holds the turns. -/
def Lq12 (w : World) (g n : Nat) (lf : Nat → Nat) : Prop := w.heap[g]? = some (.cells (ci9 (rw11 n fun q => (lf q : Int))).toArray 3 (0, 0))
section
variable {w w' : World} {g n : Nat} {lf : Nat → Nat}
theorem Lq12.lt (h : Lq12 w g n lf) : g < w.heap.size := (Array.getElem?_eq_some_iff.1 h).1
theorem Lq12.keep (h : Lq12 w g n lf) (hb : Below w.heap.size w w') : Lq12 w' g n lf := (hb.block g h.lt).trans h
theorem Lq12.cell (h : Lq12 w g n lf) {q : Nat} (hq : q < n) : w.cell? ⟨g, q, none⟩ = some (.int .i64 (lf q)) := by
  rw [cell_of_row w g q _ _ (0, 0) h, List.getElem?_toArray, rw11_at hq]
theorem Lq12.froz (h : Lq12 w g n lf) (q : Nat) : w.frozen? ⟨g, q, none⟩ = false := frozen_of_row w g q _ _ h
theorem Lq12.set (h : Lq12 w g n lf) (q v : Nat) : Lq12 (w.setCell ⟨g, q, none⟩ (.int .i64 v)) g n (put9 lf q v) := by
  unfold Lq12
  rw [heap_setCell_same w g q _ _ _ h, List.setIfInBounds_toArray, rw11_set (f' := fun t => (put9 lf q v t : Int)) (by simp [put9]) (fun t ht => by simp [put9, ht])]
theorem Lq12.other (h : Lq12 w g n lf) {p : Addr} (hp : p.block ≠ g) (u : Value) : Lq12 (w.setCell p u) g n lf := (Below.heap_setCell w p u g (fun e => hp e.symm)).trans h
theorem Lq12.new (w : World) (n : Nat) : Lq12 (w.alloc (.cells (List.replicate n (.int .i64 0)).toArray 3)) w.heap.size n (fun _ => 0) := by
  unfold Lq12
  rw [heap_alloc_last]
  have : List.replicate n (Value.int .i64 0) = ci9 (rw11 n fun _ => ((0 : Nat) : Int)) := by
    apply List.ext_getElem?
    intro j
    by_cases hj : j < n
    · rw [rw11_at hj, List.getElem?_replicate, if_pos hj]; rfl
    · rw [List.getElem?_eq_none (by simp; omega), List.getElem?_eq_none (by rw [ci9, List.length_map, rw11_len]; omega)]
  rw [this]
theorem Lq12.new2 (w : World) (n : Nat) : Lq12 (w.alloc (.cells (Array.replicate n (.int .i64 0)) 3)) w.heap.size n (fun _ => 0) := by
  have h := Lq12.new w n
  rwa [show (List.replicate n (Value.int .i64 0)).toArray = Array.replicate n (.int .i64 0) by simp] at h
end
/-- What a run took, in block T. -/
def Tk12 (w : World) (T : Nat) (f s h : Int) (o : Bool) : Prop := w.heap[T]? = some (.cells #[.int .i64 f, .int .i64 s, .int .i64 h, .bool o] 41 (0, 0))
section
variable {w w' : World} {T : Nat} {f s h : Int} {o : Bool}
theorem Tk12.lt (k : Tk12 w T f s h o) : T < w.heap.size := (Array.getElem?_eq_some_iff.1 k).1
theorem Tk12.keep (k : Tk12 w T f s h o) (hb : Below w.heap.size w w') : Tk12 w' T f s h o := (hb.block T k.lt).trans k
theorem Tk12.cells (k : Tk12 w T f s h o) : w.cell? ⟨T, 0, none⟩ = some (.int .i64 f) ∧ w.cell? ⟨T, 1, none⟩ = some (.int .i64 s) ∧ w.cell? ⟨T, 2, none⟩ = some (.int .i64 h) ∧ w.cell? ⟨T, 3, none⟩ = some (.bool o) := by
  refine ⟨?_, ?_, ?_, ?_⟩ <;> rw [cell_of_row w T _ _ _ (0, 0) k] <;> rfl
theorem Tk12.froz (k : Tk12 w T f s h o) (j : Nat) : w.frozen? ⟨T, j, none⟩ = false := frozen_of_row w T j _ _ k
theorem Tk12.set0 (k : Tk12 w T f s h o) (v : Int) : Tk12 (w.setCell ⟨T, 0, none⟩ (.int .i64 v)) T v s h o := by
  unfold Tk12; rw [heap_setCell_same w T 0 _ _ _ k]; rfl
theorem Tk12.set1 (k : Tk12 w T f s h o) (v : Int) : Tk12 (w.setCell ⟨T, 1, none⟩ (.int .i64 v)) T f v h o := by
  unfold Tk12; rw [heap_setCell_same w T 1 _ _ _ k]; rfl
theorem Tk12.set2 (k : Tk12 w T f s h o) (v : Int) : Tk12 (w.setCell ⟨T, 2, none⟩ (.int .i64 v)) T f s v o := by
  unfold Tk12; rw [heap_setCell_same w T 2 _ _ _ k]; rfl
theorem Tk12.set3 (k : Tk12 w T f s h o) (v : Bool) : Tk12 (w.setCell ⟨T, 3, none⟩ (.bool v)) T f s h v := by
  unfold Tk12; rw [heap_setCell_same w T 3 _ _ _ k]; rfl
theorem Tk12.other (k : Tk12 w T f s h o) {p : Addr} (hp : p.block ≠ T) (u : Value) : Tk12 (w.setCell p u) T f s h o := (Below.heap_setCell w p u T (fun e => hp e.symm)).trans k
theorem Tk12.new (w : World) : Tk12 (w.alloc (.cells #[.int .i64 0, .int .i64 0, .int .i64 0, .bool false] 41)) w.heap.size 0 0 0 false := heap_alloc_last w _
theorem Tk12.grown (k : Tk12 w T f s h o) {base2 e2 size2 n2 : Nat} {v2 : Value} {xs2 : List Value} (h2 : w.ownsRow base2 e2 size2 v2 n2 xs2) (hne : 41 ≠ e2) (hg : w.grownBy w' v2.ownBlock) : Tk12 w' T f s h o := blk_grown12 k h2 hne hg
end
/-- The frames in memory, the last one that was called last; B: from where on. -/
structure Sf12 (w : World) (d : Md) (B G n c : Nat) (L : List Ff12) : Prop where
  own : w.ownsRow B 70 3 (.slice (some ⟨G, 0, none⟩) n c) n (clr (f312 d) L)
  lf : ∀ x ∈ L, B ≤ x.g ∧ Lq12 w x.g (fo12 d x.z).length x.z.lf
  ne : L.Pairwise fun x y => x.g ≠ y.g
section
variable {w w' : World} {d : Md} {B G n c : Nat} {L : List Ff12}
theorem own_blk12 {base e size g n cap : Nat} {xs : List Value} (h : w.ownsRow base e size (.slice (some ⟨g, 0, none⟩) n cap) n xs) : ∃ cs, w.heap[g]? = some (.cells cs e (0, 0)) := by
  rcases h.2 with ⟨h', _⟩ | ⟨g', cap', cur, h', hb, hg, _⟩
  · cases h'
  · injection h' with e1 e2 e3
    injection e1 with e1
    injection e1 with e1
    subst e1
    exact ⟨_, hg⟩
theorem Sf12.len (h : Sf12 w d B G n c L) : n = L.length := by have := h.own.1; rw [clr_len (f312_len d)] at this; omega
theorem Sf12.apart (h : Sf12 w d B G n c L) {x : Ff12} (hx : x ∈ L) : x.g ≠ G := fun e => by
  obtain ⟨cs, h1⟩ := own_blk12 h.own
  have h2 := (h.lf x hx).2
  unfold Lq12 at h2
  rw [e, h1] at h2
  injection h2 with h2
  injection h2 with _ h3 _
  exact absurd h3 (by decide)
theorem Sf12.keep (h : Sf12 w d B G n c L) (hb : Below w.heap.size w w') : Sf12 w' d B G n c L := ⟨own_below h.own hb (Nat.le_refl _), fun x hx => ⟨(h.lf x hx).1, (h.lf x hx).2.keep hb⟩, h.ne⟩
/-- A store into a block below. -/
theorem Sf12.other (h : Sf12 w d B G n c L) {p : Addr} (hp : p.block < B) (u : Value) : Sf12 (w.setCell p u) d B G n c L := by
  refine ⟨h.own.kept (row := some p.block) ⟨rfl, rfl, rfl, by simp [World.setCell], fun k _ hk => Below.heap_setCell w p u k (fun e => hk (by rw [e]))⟩ (.inr fun e => ?_), fun x hx => ⟨(h.lf x hx).1, (h.lf x hx).2.other (by have := (h.lf x hx).1; omega) u⟩, h.ne⟩
  have := (h.own.lt _ e).1
  omega
theorem Sf12.gB (h : Sf12 w d B G n c L) : B ≤ G ∧ G < w.heap.size := h.own.lt G rfl
theorem Sf12.at_ (h : Sf12 w d B G n c L) {i : Nat} {x : Ff12} (hx : L[i]? = some x) : w.cell? ⟨G, i * 3, none⟩ = some (.int .i64 x.z.k) ∧ w.cell? ⟨G, i * 3 + 1, none⟩ = some (.int .i64 x.z.p) ∧ w.cell? ⟨G, i * 3 + 2, none⟩ = some (.slice (some ⟨x.g, 0, none⟩) (fo12 d x.z).length (fo12 d x.z).length) := by
  have hi : i < n := by rw [h.len]; exact (List.getElem?_eq_some_iff.1 hx).1
  have key : ∀ j, j < 3 → w.cell? ⟨G, i * 3 + j, none⟩ = (f312 d x)[j]? := fun j hj => by
    rw [h.own.cellAt _ (by omega), clr_at (f312_len d) hj hx]
  exact ⟨key 0 (by omega), key 1 (by omega), key 2 (by omega)⟩
theorem Sf12.froz (h : Sf12 w d B G n c L) (j : Nat) : w.frozen? ⟨G, j, none⟩ = false := h.own.frozenAt j
theorem Sf12.left (h : Sf12 w d B G n c L) {i : Nat} {x : Ff12} (hx : L[i]? = some x) : Lq12 w x.g (fo12 d x.z).length x.z.lf := (h.lf x (List.mem_of_getElem? hx)).2
theorem ne_set {L : List Ff12} {i : Nat} {x y : Ff12} (h : L.Pairwise fun x y => x.g ≠ y.g) (hx : L[i]? = some x) (hg : y.g = x.g) : (L.set i y).Pairwise fun x y => x.g ≠ y.g := by
  have e : (L.set i y).map (·.g) = L.map (·.g) := by
    apply List.ext_getElem?
    intro j
    have hi := (List.getElem?_eq_some_iff.1 hx).1
    rw [List.getElem?_map, List.getElem?_map]
    by_cases hj : i = j
    · subst hj
      rw [List.getElem?_set_self hi, hx]
      simp [hg]
    · rw [List.getElem?_set_ne hj]
  have h1 := List.pairwise_map.2 h
  rw [← e] at h1
  exact List.pairwise_map.1 h1
/-- Where a frame is, is written. -/
theorem Sf12.setP (h : Sf12 w d B G n c L) {i : Nat} {x y : Ff12} (hx : L[i]? = some x) (hg : y.g = x.g) (hk : y.z.k = x.z.k) (hl : y.z.lf = x.z.lf) : Sf12 (w.setCell ⟨G, i * 3 + 1, none⟩ (.int .i64 y.z.p)) d B G n c (L.set i y) := by
  have hf : f312 d y = (f312 d x).set 1 (.int .i64 y.z.p) := by simp [f312, hg, hk, fo12]
  refine ⟨?_, fun u hu => ?_, ne_set h.ne hx hg⟩
  · have h1 := (h.own.stored (i * 3 + 1) (.int .i64 y.z.p)).1
    rw [clr_set (f312_len d) hx (by omega) hf] at h1
    exact h1
  · rcases List.mem_or_eq_of_mem_set hu with hu | rfl
    · exact ⟨(h.lf u hu).1, (h.lf u hu).2.other (fun e => h.apart hu e.symm) _⟩
    · have hm := List.mem_of_getElem? hx
      have := (h.lf x hm).2.other (p := ⟨G, i * 3 + 1, none⟩) (fun e => h.apart hm e.symm) (.int .i64 u.z.p)
      refine ⟨by rw [hg]; exact (h.lf x hm).1, ?_⟩
      rw [hg, hl]
      simpa [fo12, hk] using this
/-- How many turns are left, is written. -/
theorem Sf12.setL (h : Sf12 w d B G n c L) {i : Nat} {x y : Ff12} (hx : L[i]? = some x) (hg : y.g = x.g) (hk : y.z.k = x.z.k) (hp : y.z.p = x.z.p) {q v : Nat} (hl : y.z.lf = put9 x.z.lf q v) : Sf12 (w.setCell ⟨x.g, q, none⟩ (.int .i64 v)) d B G n c (L.set i y) := by
  have hf : f312 d y = f312 d x := by simp [f312, hg, hk, hp, fo12]
  have hm := List.mem_of_getElem? hx
  refine ⟨?_, fun u hu => ?_, ne_set h.ne hx hg⟩
  · have h1 := h.own.kept (w' := w.setCell ⟨x.g, q, none⟩ (.int .i64 v)) (row := some x.g) ⟨rfl, rfl, rfl, by simp [World.setCell], fun k _ hk => Below.heap_setCell w _ _ k (fun e => hk (by rw [e]))⟩ (.inr fun e => by
      simp [Value.ownBlock] at e
      exact h.apart hm e.symm)
    have h2 : clr (f312 d) (L.set i y) = clr (f312 d) L := by
      rw [← clr_set (f312_len d) (y := y) hx (j := 1) (by omega) (u := .int .i64 x.z.p) (by rw [hf]; rfl)]
      apply List.ext_getElem?
      intro j
      by_cases hj : i * 3 + 1 = j
      · subst hj
        rw [List.getElem?_set_self (by rw [clr_len (f312_len d)]; have := (List.getElem?_eq_some_iff.1 hx).1; omega), clr_at (f312_len d) (by omega) hx]
        rfl
      · rw [List.getElem?_set_ne hj]
    rw [h2]
    exact h1
  · have hset : ∀ u ∈ L, u.g ≠ x.g → B ≤ u.g ∧ Lq12 (w.setCell ⟨x.g, q, none⟩ (.int .i64 v)) u.g (fo12 d u.z).length u.z.lf := fun u hu hne => ⟨(h.lf u hu).1, (h.lf u hu).2.other (fun e => hne e.symm) _⟩
    obtain ⟨j, hj⟩ := List.getElem?_of_mem hu
    by_cases hji : i = j
    · subst hji
      rw [List.getElem?_set_self (List.getElem?_eq_some_iff.1 hx).1] at hj
      injection hj with hj
      subst hj
      refine ⟨by rw [hg]; exact (h.lf x hm).1, ?_⟩
      have := (h.lf x hm).2.set q v
      rw [hg, hl]
      simpa [fo12, hk] using this
    · rw [List.getElem?_set_ne hji] at hj
      refine hset u (List.mem_of_getElem? hj) fun e => ?_
      obtain ⟨i1, e1⟩ := List.getElem?_eq_some_iff.1 hj
      obtain ⟨i2, e2⟩ := List.getElem?_eq_some_iff.1 hx
      have hp := List.pairwise_iff_getElem.1 h.ne
      rcases Nat.lt_or_gt_of_ne hji with hlt | hlt
      · exact hp i j i2 i1 hlt (by rw [e1, e2]; exact e.symm)
      · exact hp j i i1 i2 hlt (by rw [e1, e2]; exact e)
/-- The last frame is dropped. -/
theorem Sf12.pop {x : Ff12} (h : Sf12 w d B G (n + 1) c (L ++ [x])) : Sf12 w d B G n c L := by
  have hl : n = L.length := by have := h.len; simp at this; exact this
  refine ⟨ownsRow_pop (last := f312 d x) (by rw [clr_len (f312_len d), hl]) (by have := h.own; rw [clr_append] at this; simpa [clr] using this), fun u hu => h.lf u (List.mem_append_left _ hu), (List.pairwise_append.1 h.ne).1⟩
/-- A frame more: its turns lie in a block of their own. -/
theorem Sf12.push {G' c' : Nat} {x : Ff12} (h : Sf12 w d B G n c L) (hx : B ≤ x.g) (hlx : Lq12 w x.g (fo12 d x.z).length x.z.lf) (hne : ∀ u ∈ L, u.g ≠ x.g) (ho : w'.ownsRow B 70 3 (.slice (some ⟨G', 0, none⟩) (n + 1) c') (n + 1) (clr (f312 d) (L ++ [x]))) (hg : w.grownBy w' (some G)) : Sf12 w' d B G' (n + 1) c' (L ++ [x]) := by
  have hl : ∀ {u : Ff12}, Lq12 w u.g (fo12 d u.z).length u.z.lf → Lq12 w' u.g (fo12 d u.z).length u.z.lf := fun hu => blk_grown12 hu h.own (by decide) hg
  refine ⟨ho, fun u hu => ?_, List.pairwise_append.2 ⟨h.ne, List.pairwise_singleton _ _, fun a ha b hb => ?_⟩⟩
  · rcases List.mem_append.1 hu with hu | hu
    · exact ⟨(h.lf u hu).1, hl (h.lf u hu).2⟩
    · rw [List.mem_singleton] at hu
      subst hu
      exact ⟨hx, hl hlx⟩
  · rw [List.mem_singleton] at hb
    subst hb
    exact hne a ha
end
/-- Those that wait: each stands at a call. -/
theorem Up12.all {d : Md} {k0 : Nat} {x : Prop} : ∀ {Y : List Fz} {k F V : Nat}, Up12 d k0 x Y k F V → Y.length ≤ F ∧ ∀ z ∈ Y, Go12 d z ∧ iO9 (fo12 d z) z.p = 30
  | [], k, F, V, h => ⟨Nat.zero_le _, fun z hz => by cases hz⟩
  | z :: Y, k, F, V, h => by
    obtain ⟨G, ho, ha, -, F', V', h', e1, -⟩ := h
    obtain ⟨i1, i2⟩ := Up12.all h'
    refine ⟨by simp; omega, fun u hu => ?_⟩
    rcases List.mem_cons.1 hu with rfl | hu
    · exact ⟨G, ho⟩
    · exact i2 u hu
theorem Ru12.all {d : Md} (H : Ok12 d) {k0 : Nat} {x : Prop} {z : Fz} {Y : List Fz} {f v : Nat} (R : Ru12 d k0 x z Y f v) : (Y.length : Int) ≤ (ce12 d k0).1 ∧ ∀ u ∈ Y, Go12 d u ∧ iO9 (fo12 d u) u.p = 30 := by
  obtain ⟨G, -, F, V, U, -⟩ := R
  obtain ⟨h1, h2⟩ := U.all
  obtain ⟨h3, -, -⟩ := U.le H
  have := (H.pos G.lt).1
  exact ⟨by omega, h2⟩
/-- What stands in the first n frames. -/
def hs12 (d : Md) (Q : List Fz) (n : Nat) : Int := ((Q.reverse.take n).map fun z => gh12 d z - ag12 d z).sum
theorem hs12_zero (d : Md) (Q : List Fz) : hs12 d Q 0 = 0 := by simp [hs12]
theorem hs12_succ {d : Md} {Q : List Fz} {n : Nat} {z : Fz} (h : Q.reverse[n]? = some z) : hs12 d Q (n + 1) = hs12 d Q n + (gh12 d z - ag12 d z) := by
  unfold hs12
  rw [List.take_add_one, h]
  simp
theorem hs12_all (d : Md) (Q : List Fz) : hs12 d Q Q.length = dg12 d Q := by
  unfold hs12 dg12
  rw [List.take_of_length_le (by simp), List.map_reverse, List.sum_reverse]
theorem hs12_bd {d : Md} {Q : List Fz} (h : ∀ z ∈ Q, -1000 ≤ gh12 d z - ag12 d z ∧ gh12 d z - ag12 d z ≤ 1000) : ∀ n : Nat, -1000 * (n : Int) ≤ hs12 d Q n ∧ hs12 d Q n ≤ 1000 * n
  | 0 => by simp [hs12]
  | n + 1 => by
    have h1 := hs12_bd h n
    by_cases hn : n < Q.length
    · have h2 : Q.reverse[n]? = some (Q.reverse[n]'(by simpa using hn)) := List.getElem?_eq_getElem _
      have h3 := h _ (List.mem_reverse.1 (List.mem_of_getElem? h2))
      rw [hs12_succ h2]
      omega
    · have e : hs12 d Q (n + 1) = hs12 d Q n := by
        unfold hs12
        rw [List.take_of_length_le (by simp; omega), List.take_of_length_le (by simp; omega)]
      rw [e]
      omega
end Go.Proofs.YtmgppdjbmhjmbaaGreat
namespace Go.Proofs.YtmgppdjbmhjmbaaGreat
open Go.RowKit
set_option maxRecDepth 100000
set_option linter.unusedSimpArgs false
set_option linter.unusedVariables false

/-- Where a method, an instruction of its, and the row there lie. -/
structure Lk12 (w : World) (ad8 : Addr) (gR : Nat) (d : Md) (k p : Nat) (x : Mc) (adc : Addr) (gg rc : Nat) (KA : Option Addr) (kc : Nat) (b : Int) (bb : Bool) : Prop where
  at8 : At8 w (ad8.add (k * 8)) ⟨x, me10 d k, co11 d k⟩
  xD : x.D = some adc
  xk : x.k = (co11 d k).length
  i0 : w.cell? (adc.add (p * 3)) = some (.int .u8 (iO9 (co11 d k) p))
  i1 : w.cell? ⟨(adc.add (p * 3)).block, (adc.add (p * 3)).off + 1, none⟩ = some (.int .i64 (iA9 (co11 d k) p))
  i2 : w.cell? ⟨(adc.add (p * 3)).block, (adc.add (p * 3)).off + 2, none⟩ = some (.int .i64 b)
  r0 : w.cell? ⟨gR, k, none⟩ = some (.slice (some ⟨gg, 0, none⟩) (co11 d k).length rc)
  r1 : w.cell? ⟨gg, p * 2, none⟩ = some (.bool bb)
  r2 : w.cell? ⟨gg, p * 2 + 1, none⟩ = some (.slice KA (zr12 (rw10s d k).1 p).2.length kc)
theorem Lk12.keep {w w' : World} {ad8 : Addr} {gR : Nat} {d : Md} {k p : Nat} {x : Mc} {adc : Addr} {gg rc : Nat} {KA : Option Addr} {kc : Nat} {b : Int} {bb : Bool} (h : Lk12 w ad8 gR d k p x adc gg rc KA kc b bb) (hb : Below w.heap.size w w') : Lk12 w' ad8 gR d k p x adc gg rc KA kc b bb := by
  have k : ∀ {a : Addr} {v : Value}, w.cell? a = some v → w'.cell? a = some v := fun hv => (hb.cell (cell_lt hv)).trans hv
  exact ⟨h.at8.keep hb, h.xD, h.xk, k h.i0, k h.i1, k h.i2, k h.r0, k h.r1, k h.r2⟩
/-- A module, and its rows, in memory. -/
structure Md12 (w : World) (y : Ma) (d : Md) (ad8 : Addr) (gR c : Nat) (R : List Rr12) : Prop where
  q : Hq w y d
  a : y.A = some ad8
  r : Rg rr1 1 w (some ⟨gR, 0, none⟩) c R
  l : R.length = d.s.length
  z : Rq12 w d R
theorem Md12.keep {w w' : World} {y : Ma} {d : Md} {ad8 : Addr} {gR c : Nat} {R : List Rr12} (h : Md12 w y d ad8 gR c R) (hb : Below w.heap.size w w') : Md12 w' y d ad8 gR c R := ⟨h.q.keep hb, h.a, h.r.keep hb, h.l, h.z.keep hb⟩
abbrev fMd12 (y : Ma) (d : Md) (ad8 : Addr) (gR c : Nat) (R : List Rr12) : Fct := ⟨fun w => Md12 w y d ad8 gR c R, fun _ _ h hb => h.keep hb⟩
theorem me_at12 {d : Md} {k : Nat} (hk : k < d.s.length) : d.s[k] = (me10 d k, co11 d k) := by
  have e : d.s[k]? = some d.s[k] := List.getElem?_eq_getElem hk
  rw [me10, co11, e]
  rfl
theorem Md12.look {w : World} {y : Ma} {d : Md} {ad8 : Addr} {gR c : Nat} {R : List Rr12} (M : Md12 w y d ad8 gR c R) (H : Ok12 d) {k p : Nat} (hk : k < d.s.length) (hp : p < (co11 d k).length) : ∃ x adc gg rc KA kc b bb, Lk12 w ad8 gR d k p x adc gg rc KA kc b bb := by
  have hz : k < y.Z.length := by rw [M.q.zlen]; exact hk
  obtain ⟨ad, hA, hat, hok⟩ := M.q.2.2.1.at_ hz
  have e : ad8 = ad := by have h1 := M.a; rw [hA] at h1; injection h1 with h1; exact h1.symm
  subst e
  have hm := M.q.zat hz hk
  rw [me_at12 hk] at hm
  generalize y.Z[k] = zm at hat hok hm
  obtain ⟨x, m, L⟩ := zm
  have hm1 : me10 d k = m := congrArg Prod.fst hm
  have hm2 : co11 d k = L := congrArg Prod.snd hm
  subst hm1 hm2
  obtain ⟨-, hRi, hxk⟩ := hok
  dsimp only at hRi hxk hat
  obtain ⟨adc, hD, c0, c1, c2⟩ := hRi.at_ hp
  have e0 : iO9 (co11 d k) p = ((co11 d k)[p]).1 := by rw [iO9, List.getElem?_eq_getElem hp]; rfl
  have e1 : iA9 (co11 d k) p = ((co11 d k)[p]).2.1 := by rw [iA9, List.getElem?_eq_getElem hp]; rfl
  have hkR : k < R.length := by rw [M.l]; exact hk
  have hR := List.getElem?_eq_getElem hkR
  obtain ⟨h1, h2⟩ := M.z k _ hR
  obtain ⟨g, hg, -, hc⟩ := M.r.at_ rr1_len hR
  injection hg with hg
  injection hg with hg
  subst hg
  have r0 := hc 0 (by omega)
  generalize R[k] = rr at h1 h2 r0
  obtain ⟨RA, rc, Z⟩ := rr
  have hl : Z.length = (co11 d k).length := by
    have := congrArg List.length h2
    rw [List.length_map, (H.rows hk).2.1] at this
    exact this
  have hpZ : p < Z.length := by rw [hl]; exact hp
  have hZ := List.getElem?_eq_getElem hpZ
  obtain ⟨gg, hgg, -, hcc⟩ := h1.at_ crx_len hZ
  have q0 := hcc 0 (by omega)
  have q1 := hcc 1 (by omega)
  have hK : (zr12 (rw10s d k).1 p) = rz Z[p] := by
    rw [zr12, ← h2, List.getElem?_map]
    show ((Z[p]?).map rz).getD z10 = _
    rw [hZ]
    rfl
  dsimp only at hgg
  simp only [crx, List.getElem?_cons_zero, List.getElem?_cons_succ, Nat.add_zero] at q0 q1
  subst hgg
  exact ⟨x, adc, gg, rc, _, _, _, _, hat, hD, hxk.symm, by rw [e0]; exact c0, by rw [e1]; exact c1, c2, by simpa [rr1, hl] using r0, q0, by rw [hK]; exact q1⟩
end Go.Proofs.YtmgppdjbmhjmbaaGreat
namespace Go.Proofs.YtmgppdjbmhjmbaaGreat
open Go.RowKit
set_option maxRecDepth 100000
set_option linter.unusedSimpArgs false
set_option linter.unusedVariables false

/-- A slice of Booleans, to be read. -/
def Bw12 (w : World) (A : Option Addr) (n : Nat) : Prop := ∀ q, q < n → ∃ ad b, A = some ad ∧ w.cell? (ad.add q) = some (.bool b)
theorem Bw12.keep {w w' : World} {A : Option Addr} {n : Nat} (h : Bw12 w A n) (hb : Below w.heap.size w w') : Bw12 w' A n := fun q hq => by
  obtain ⟨ad, b, h1, h2⟩ := h q hq
  exact ⟨ad, b, h1, (hb.cell (cell_lt h2)).trans h2⟩
abbrev fBw12 (A : Option Addr) (n : Nat) : Fct := ⟨fun w => Bw12 w A n, fun _ _ h hb => h.keep hb⟩
/-- What run tells. -/
def Rn12 (w w' : World) (d : Md) (k0 : Nat) (x : Prop) (r : Ending) : Prop := ∃ f s v : Int, r = .returned (.agg #[.int .i64 f, .int .i64 s, .int .i64 v, .bool true]) ∧ f ≤ (ce12 d k0).1 ∧ s ≤ (ce12 d k0).2.1 ∧ v ≤ (ce12 d k0).2.2 ∧ (x → f = (ce12 d k0).1 ∧ v = (ce12 d k0).2.2) ∧ Below w.heap.size w w'
theorem run_end12 (tm : Array Value) (w' : World) (T : Nat) (f s v : Int) (o : Bool) (h2 : tm[10]?.getD undef = .pointer (some ⟨T, 0, none⟩)) (hw : Tk12 w' T f s v o) (Q : Ending → World → Prop)
    (hR : Q (.returned (.agg #[.int .i64 f, .int .i64 s, .int .i64 v, .bool o])) w') : bodyPost Tryz.prog Tryz.f10 Q .ret { tmps := tm, defers := [] } w' := by
  obtain ⟨c0, c1, c2, c3⟩ := hw.cells
  exact bodyPost_ret (v := .agg #[.int .i64 f, .int .i64 s, .int .i64 v, .bool o]) (by simp [results, Tryz.results10, go_sem, h2, c0, c1, c2, c3]) rfl hR
def ms12 (T : Nat) (w : World) : Nat := 6000 - (match w.cell? ⟨T, 0, none⟩ with | some v => (intOf v).toNat | none => 0)
theorem ms12_of {T : Nat} {w : World} {f s h : Int} {o : Bool} (k : Tk12 w T f s h o) : ms12 T w = 6000 - f.toNat := by
  unfold ms12
  rw [k.cells.1]
  rfl
/-- A round of run begins so: B is the block of the module. -/
structure Rs12 (B : Nat) (w1 w : World) (d : Md) (k0 : Nat) (xp : Prop) (G n c : Nat) (x : Ff12) (Q : List Ff12) (f v : Nat) (s : Int) : Prop where
  ru : Ru12 d k0 xp x.z (Q.map (·.z)) f v
  sf : Sf12 w d (B + 3) G n c (Q.reverse ++ [x])
  tk : Tk12 w (B + 2) f s v false
  s0 : 0 ≤ s
  s1 : s ≤ (ce12 d k0).2.1
  rs : Tk12 w (B + 1) 0 0 0 false
  bl : Below (B + 1) w1 w
theorem Rs12.keep {B : Nat} {w1 w w' : World} {d : Md} {k0 : Nat} {xp : Prop} {G n c : Nat} {x : Ff12} {Q : List Ff12} {f v : Nat} {s : Int} (h : Rs12 B w1 w d k0 xp G n c x Q f v s) (hb : Below w.heap.size w w') : Rs12 B w1 w' d k0 xp G n c x Q f v s :=
  ⟨h.ru, h.sf.keep hb, h.tk.keep hb, h.s0, h.s1, h.rs.keep hb, h.bl.trans (hb.mono (by have := h.tk.lt; omega))⟩
/-- The same, amid a round: what was taken so far is told apart. -/
structure Mi12 (B : Nat) (w1 w : World) (d : Md) (G n c : Nat) (L : List Ff12) (F s V : Int) : Prop where
  sf : Sf12 w d (B + 3) G n c L
  tk : Tk12 w (B + 2) F s V false
  rs : Tk12 w (B + 1) 0 0 0 false
  bl : Below (B + 1) w1 w
section
variable {B : Nat} {w1 w w' : World} {d : Md} {G n c : Nat} {L : List Ff12} {F s V : Int}
theorem Mi12.keep (h : Mi12 B w1 w d G n c L F s V) (hb : Below w.heap.size w w') : Mi12 B w1 w' d G n c L F s V :=
  ⟨h.sf.keep hb, h.tk.keep hb, h.rs.keep hb, h.bl.trans (hb.mono (by have := h.tk.lt; omega))⟩
theorem Mi12.set0 (h : Mi12 B w1 w d G n c L F s V) (v : Int) : Mi12 B w1 (w.setCell ⟨B + 2, 0, none⟩ (.int .i64 v)) d G n c L v s V :=
  ⟨h.sf.other (by show B + 2 < B + 3; omega) _, h.tk.set0 v, h.rs.other (by show B + 2 ≠ B + 1; omega) _, h.bl.setCell (by show B + 1 ≤ B + 2; omega) _⟩
theorem Mi12.set1 (h : Mi12 B w1 w d G n c L F s V) (v : Int) : Mi12 B w1 (w.setCell ⟨B + 2, 1, none⟩ (.int .i64 v)) d G n c L F v V :=
  ⟨h.sf.other (by show B + 2 < B + 3; omega) _, h.tk.set1 v, h.rs.other (by show B + 2 ≠ B + 1; omega) _, h.bl.setCell (by show B + 1 ≤ B + 2; omega) _⟩
theorem Mi12.set2 (h : Mi12 B w1 w d G n c L F s V) (v : Int) : Mi12 B w1 (w.setCell ⟨B + 2, 2, none⟩ (.int .i64 v)) d G n c L F s v :=
  ⟨h.sf.other (by show B + 2 < B + 3; omega) _, h.tk.set2 v, h.rs.other (by show B + 2 ≠ B + 1; omega) _, h.bl.setCell (by show B + 1 ≤ B + 2; omega) _⟩
theorem Mi12.setP (h : Mi12 B w1 w d G n c L F s V) {i : Nat} {x y : Ff12} (hx : L[i]? = some x) (hg : y.g = x.g) (hk : y.z.k = x.z.k) (hl : y.z.lf = x.z.lf) : Mi12 B w1 (w.setCell ⟨G, i * 3 + 1, none⟩ (.int .i64 y.z.p)) d G n c (L.set i y) F s V := by
  have := h.sf.gB
  exact ⟨h.sf.setP hx hg hk hl, h.tk.other (by show G ≠ B + 2; omega) _, h.rs.other (by show G ≠ B + 1; omega) _, h.bl.setCell (by show B + 1 ≤ G; omega) _⟩
theorem Mi12.setL (h : Mi12 B w1 w d G n c L F s V) {i : Nat} {x y : Ff12} (hx : L[i]? = some x) (hg : y.g = x.g) (hk : y.z.k = x.z.k) (hp : y.z.p = x.z.p) {q v : Nat} (hl : y.z.lf = put9 x.z.lf q v) : Mi12 B w1 (w.setCell ⟨x.g, q, none⟩ (.int .i64 v)) d G n c (L.set i y) F s V := by
  have := (h.sf.lf x (List.mem_of_getElem? hx)).1
  exact ⟨h.sf.setL hx hg hk hp hl, h.tk.other (by show x.g ≠ B + 2; omega) _, h.rs.other (by show x.g ≠ B + 1; omega) _, h.bl.setCell (by show B + 1 ≤ x.g; omega) _⟩
end
theorem Rs12.mi {B : Nat} {w1 w : World} {d : Md} {k0 : Nat} {xp : Prop} {G n c : Nat} {x : Ff12} {Q : List Ff12} {f v : Nat} {s : Int} (h : Rs12 B w1 w d k0 xp G n c x Q f v s) : Mi12 B w1 w d G n c (Q.reverse ++ [x]) f s v := ⟨h.sf, h.tk, h.rs, h.bl⟩
/-- What stands, n frames reckoned. -/
def hh12 (d : Md) (Q : List Fz) (z : Fz) (n : Nat) : Int := if n ≤ Q.length then hs12 d Q n else dg12 d Q + gh12 d z
theorem hh12_top (d : Md) (Q : List Fz) (z : Fz) : hh12 d Q z (Q.length + 1) = hh12 d Q z Q.length + gh12 d z := by
  rw [hh12, if_neg (by omega), hh12, if_pos (Nat.le_refl _), hs12_all]
theorem hh12_low {d : Md} {Q : List Fz} {z x : Fz} {n : Nat} (h : Q.reverse[n]? = some x) : hh12 d Q z (n + 1) = hh12 d Q z n + gh12 d x - ag12 d x := by
  have hn : n < Q.length := by have := (List.getElem?_eq_some_iff.1 h).1; simpa using this
  rw [hh12, if_pos (by omega), hh12, if_pos (by omega), hs12_succ h]
  omega
theorem Md12.meth {w : World} {y : Ma} {d : Md} {ad8 : Addr} {gR c : Nat} {R : List Rr12} (M : Md12 w y d ad8 gR c R) {k : Nat} (hk : k < d.s.length) : ∃ x, At8 w (ad8.add (k * 8)) ⟨x, me10 d k, co11 d k⟩ ∧ x.k = (co11 d k).length := by
  have hz : k < y.Z.length := by rw [M.q.zlen]; exact hk
  obtain ⟨ad, hA, hat, hok⟩ := M.q.2.2.1.at_ hz
  have e : ad8 = ad := by have h1 := M.a; rw [hA] at h1; injection h1 with h1; exact h1.symm
  subst e
  have hm := M.q.zat hz hk
  rw [me_at12 hk] at hm
  generalize y.Z[k] = zm at hat hm hok
  obtain ⟨x, m, L⟩ := zm
  have hm1 : me10 d k = m := congrArg Prod.fst hm
  have hm2 : co11 d k = L := congrArg Prod.snd hm
  subst hm1 hm2
  exact ⟨x, hat, hok.2.2.symm⟩
/-- A piece of code, by its path: 0 and 1 the sides of a seq or a cond, 2 what a block, a loop or a scope holds. -/
def cut12 : List Nat → Code → Code
  | 0 :: p, .seq a _ => cut12 p a
  | 1 :: p, .seq _ b => cut12 p b
  | 0 :: p, .cond _ a _ => cut12 p a
  | 1 :: p, .cond _ _ b => cut12 p b
  | 2 :: p, .block _ c => cut12 p c
  | 2 :: p, .loop c => cut12 p c
  | 2 :: p, .scope c => cut12 p c
  | _, c => c
/-- The n-th frame. -/
theorem ff12 {d : Md} {Q : List Ff12} {x : Ff12} {t n : Nat} (ht : Q.length = t) (hn : n ≤ t) (HQ : ∀ u ∈ Q.map (·.z), Go12 d u ∧ iO9 (fo12 d u) u.p = 30) (HX : Go12 d x.z) :
    ∃ y : Ff12, (Q.reverse ++ [x])[n]? = some y ∧ Go12 d y.z ∧ (n < t → iO9 (fo12 d y.z) y.z.p = 30 ∧ hh12 d (Q.map (·.z)) x.z (n + 1) = hh12 d (Q.map (·.z)) x.z n + gh12 d y.z - ag12 d y.z) ∧ (¬ n < t → hh12 d (Q.map (·.z)) x.z (n + 1) = hh12 d (Q.map (·.z)) x.z n + gh12 d y.z) := by
  by_cases hnt : n < t
  · have hl : n < Q.reverse.length := by rw [List.length_reverse, ht]; exact hnt
    have he := List.getElem?_eq_getElem hl
    obtain ⟨h1, h2⟩ := HQ (Q.reverse[n]).z (List.mem_map.2 ⟨_, List.mem_reverse.1 (List.getElem_mem hl), rfl⟩)
    refine ⟨Q.reverse[n], by rw [List.getElem?_append_left hl]; exact he, h1, fun _ => ⟨h2, hh12_low ?_⟩, fun h => absurd hnt h⟩
    rw [← List.map_reverse, List.getElem?_map, he]
    rfl
  · obtain rfl : n = t := by omega
    refine ⟨x, by rw [List.getElem?_append_right (by rw [List.length_reverse, ht]; exact Nat.le_refl _), List.length_reverse, ht, Nat.sub_self]; rfl, HX, fun h => absurd h hnt, fun _ => ?_⟩
    have := hh12_top d (Q.map (·.z)) x.z
    rw [List.length_map, ht] at this
    exact this
set_option maxHeartbeats 16000000 in
/-- The inner loop: what stands in all frames. -/
theorem in12_v (v0 v2 v3 v4 v6 v7 v8 v9 v10 v11 v13 v15 v16 v19 v20 v21 v22 v23 v24 v25 v26 v27 v28 v29 v30 v31 v32 v33 v34 v35 v36 v37 v38 v39 v40 v41 v42 v43 v44 v45 v46 v47 v48 v49 v50 v51 v52 v53 v54 v55 v56 v57 v58 v59 v60 v61 v62 v63 v64 v65 v66 v67 v68 v69 v70 v71 v72 v73 v74 v75 v76 v77 v78 v79 v80 v81 v82 v83 v84 v85 v86 v87 v88 v89 v90 v91 v92 v93 v94 v95 v96 v97 v98 v99 v100 v101 v102 v103 v104 v105 v106 v107 v108 v109 v110 v111 v112 v113 v114 v115 v116 v117 v118 v119 v120 v121 v122 v123 v124 v125 v126 v127 v128 v129 v130 v131 v132 v133 v134 v135 v136 v137 v138 v139 v140 v141 v142 v143 v144 v145 v146 v147 v148 v149 v150 v151 v152 v153 v154 v155 v156 v157 v158 v159 v160 v161 v162 v163 v164 v165 v166 v167 v168 v169 v170 v171 v172 v173 v174 v175 v176 v177 v178 v179 v180 v181 v182 v183 v184 v185 v186 v187 v188 v189 v190 v191 v192 v193 v194 v195 v196 v197 v198 v199 v200 v201 v202 v203 v204 v205 v206 v207 v208 v209 v210 v211 v212 v213 v214 v215 v216 v217 v218 v219 v220 v221 v222 v223 v224 v225 v226 v227 v228 v229 v230 v231 v232 v233 v234 v235 v236 v237 v238 v239 v240 v241 v242 v243 v244 v245 v246 v247 v248 v249 v250 v251 v252 v253 v254 v255 v256 v257 v258 v259 v260 v261 v262 v263 v264 v265 v266 v267 v268 v269 v270 v271 v272 v273 v274 v275 v276 v277 v278 v279 v280 v281 v282 v283 v284 v285 v286 v287 v288 v289 v290 v291 v292 v293 v294 v295 v296 v297 v298 v299 v300 v301 : Value) (y : Ma) (d : Md) (ad8 : Addr) (gR c : Nat) (R : List Rr12) (w1 wd : World) (B Gb t fc sn : Nat) (x : Ff12) (Q : List Ff12) (F s V : Int) (hM : Md12 w1 y d ad8 gR c R) (hD : Db w1 B y d) (hz1 : w1.heap.size = B + 1) (H : Ok12 d) (hsn : d.s.length = sn) (hs40 : sn ≤ 40) (ht : Q.length = t) (ht5 : t ≤ 5000)
    (hbd : ∀ z, z ∈ d.s → z.1.a.length ≤ 100 ∧ z.1.l.length ≤ 100 ∧ z.2.length ≤ 300) (hmi : Mi12 B w1 wd d Gb (t + 1) fc (Q.reverse ++ [x]) F s V) (hqa : ∀ u ∈ Q.map (·.z), Go12 d u ∧ iO9 (fo12 d u) u.p = 30) (hgx : Go12 d x.z)
    (hgb : ∀ z, Go12 d z → ((fr12 d z).2.length : Int) ≤ 256) (hhb : ∀ n, n ≤ t → -5100000 ≤ hh12 d (Q.map (·.z)) x.z n ∧ hh12 d (Q.map (·.z)) x.z n ≤ 5100000) (hh0 : hh12 d (Q.map (·.z)) x.z 0 = 0) (Q0 : Exit → Act → World → Prop) (hP : ∀ c (a : Act) (o : Option Tmp) (v : Value) w, Q0 (.panic c) (a.put o v) w → Q0 (.panic c) a w)
    (hQ : ∀ (y18 y19 y118 y119 y120 y121 y122 y123 y124 y125 y126 y127 y128 y129 y130 y131 y132 y133 y134 y135 y136 y137 y138 y139 y140 y141 y142 y143 y144 y145 y146 y147 y148 y149 y150 y151 y152 y153 y154 y155 y156 y157 y158 y159 y160 y161 y162 y163 y164 y165 y166 y167 y168 y169 y170 y171 y172 y173 y174 y175 y176 y177 y178 y179 : Value) (w' : World), Below wd.heap.size wd w' → Q0 (.exit 2) ⟨#[v0, .slice (some ⟨gR, 0, none⟩) sn c, v2, v3, v4, .pointer (some ⟨B, 0, none⟩), v6, v7, v8, v9, v10, v11, .slice (some ⟨Gb, 0, none⟩) (t + 1) fc, v13, .int .i64 t, v15, v16, .int .i64 (hh12 d (Q.map (·.z)) x.z (t + 1)), y18, y19, v20, v21, v22, v23, v24, v25, v26, v27, v28, v29, v30, v31, v32, v33, v34, v35, v36, v37, v38, v39, v40, v41, v42, v43, v44, v45, v46, v47, v48, v49, v50, v51, v52, v53, v54, v55, v56, v57, v58, v59, v60, v61, v62, v63, v64, v65, v66, v67, v68, v69, v70, v71, v72, v73, v74, v75, v76, v77, v78, v79, v80, v81, v82, v83, v84, v85, v86, v87, v88, v89, v90, v91, v92, v93, v94, v95, v96, v97, v98, v99, v100, v101, v102, v103, v104, v105, v106, v107, v108, v109, v110, v111, v112, v113, v114, v115, v116, v117, y118, y119, y120, y121, y122, y123, y124, y125, y126, y127, y128, y129, y130, y131, y132, y133, y134, y135, y136, y137, y138, y139, y140, y141, y142, y143, y144, y145, y146, y147, y148, y149, y150, y151, y152, y153, y154, y155, y156, y157, y158, y159, y160, y161, y162, y163, y164, y165, y166, y167, y168, y169, y170, y171, y172, y173, y174, y175, y176, y177, y178, y179, v180, v181, v182, v183, v184, v185, v186, v187, v188, v189, v190, v191, v192, v193, v194, v195, v196, v197, v198, v199, v200, v201, v202, v203, v204, v205, v206, v207, v208, v209, v210, v211, v212, v213, v214, v215, v216, v217, v218, v219, v220, v221, v222, v223, v224, v225, v226, v227, v228, v229, v230, v231, v232, v233, v234, v235, v236, v237, v238, v239, v240, v241, v242, v243, v244, v245, v246, v247, v248, v249, v250, v251, v252, v253, v254, v255, v256, v257, v258, v259, v260, v261, v262, v263, v264, v265, v266, v267, v268, v269, v270, v271, v272, v273, v274, v275, v276, v277, v278, v279, v280, v281, v282, v283, v284, v285, v286, v287, v288, v289, v290, v291, v292, v293, v294, v295, v296, v297, v298, v299, v300, v301], []⟩ w') :
    Code.wp Tryz.prog (cut12 [1, 1, 1, 1, 0, 2, 2, 1, 2, 1, 1, 1, 1, 1, 1, 1, 0, 1, 2] (Tryz.f10.body.getD .skip)) Q0 ⟨#[v0, .slice (some ⟨gR, 0, none⟩) sn c, v2, v3, v4, .pointer (some ⟨B, 0, none⟩), v6, v7, v8, v9, v10, v11, .slice (some ⟨Gb, 0, none⟩) (t + 1) fc, v13, .int .i64 t, v15, v16, .int .i64 0, .int .i64 0, v19, v20, v21, v22, v23, v24, v25, v26, v27, v28, v29, v30, v31, v32, v33, v34, v35, v36, v37, v38, v39, v40, v41, v42, v43, v44, v45, v46, v47, v48, v49, v50, v51, v52, v53, v54, v55, v56, v57, v58, v59, v60, v61, v62, v63, v64, v65, v66, v67, v68, v69, v70, v71, v72, v73, v74, v75, v76, v77, v78, v79, v80, v81, v82, v83, v84, v85, v86, v87, v88, v89, v90, v91, v92, v93, v94, v95, v96, v97, v98, v99, v100, v101, v102, v103, v104, v105, v106, v107, v108, v109, v110, v111, v112, v113, v114, v115, v116, v117, v118, v119, v120, v121, v122, v123, v124, v125, v126, v127, v128, v129, v130, v131, v132, v133, v134, v135, v136, v137, v138, v139, v140, v141, v142, v143, v144, v145, v146, v147, v148, v149, v150, v151, v152, v153, v154, v155, v156, v157, v158, v159, v160, v161, v162, v163, v164, v165, v166, v167, v168, v169, v170, v171, v172, v173, v174, v175, v176, v177, v178, v179, v180, v181, v182, v183, v184, v185, v186, v187, v188, v189, v190, v191, v192, v193, v194, v195, v196, v197, v198, v199, v200, v201, v202, v203, v204, v205, v206, v207, v208, v209, v210, v211, v212, v213, v214, v215, v216, v217, v218, v219, v220, v221, v222, v223, v224, v225, v226, v227, v228, v229, v230, v231, v232, v233, v234, v235, v236, v237, v238, v239, v240, v241, v242, v243, v244, v245, v246, v247, v248, v249, v250, v251, v252, v253, v254, v255, v256, v257, v258, v259, v260, v261, v262, v263, v264, v265, v266, v267, v268, v269, v270, v271, v272, v273, v274, v275, v276, v277, v278, v279, v280, v281, v282, v283, v284, v285, v286, v287, v288, v289, v290, v291, v292, v293, v294, v295, v296, v297, v298, v299, v300, v301], []⟩ wd := by
  obtain ⟨yG, yg, yP, yp, AA, cc, Z⟩ := y
  obtain rfl : AA = some ad8 := hM.a
  have HM1 := Lib.hid hM
  have HD1 := Lib.hid hD
  have HH := Lib.hid H
  have HSN := Lib.hid hsn
  have HT := Lib.hid ht
  have HBD := Lib.hid hbd
  have HMD := Lib.hid hmi
  have HQA := Lib.hid hqa
  have HGX := Lib.hid hgx
  have HGB := Lib.hid hgb
  have HHB := Lib.hid hhb
  have HH0 := Lib.hid hh0
  have HQ0 := Lib.hid hQ
  have HP := Lib.hid hP
  have HZ1 := Lib.hid hz1
  clear hP hM hD H hsn ht hbd hmi hqa hgx hgb hhb hh0 hQ hz1
  conv => arg 2; whnf
  go_upto_region 15 with (fail)
  go_loopw [17, 18] (fun hv nv we => ∃ n : Nat, n ≤ t + 1 ∧ hv = .int .i64 (hh12 d (Q.map (·.z)) x.z n) ∧ nv = .int .i64 n ∧ Hid (Below wd.heap.size wd we)) (fun _ nv _ => t + 1 - (intOf nv).toNat)
  case atStart => exact ⟨0, by omega, by rw [HH0.out], rfl, Lib.hid (Below.refl _ _)⟩
  case round =>
    obtain ⟨n, hn, rfl, rfl, HBE⟩ := hrel
    rename World => we
    by_cases hnt : n ≤ t
    case neg =>
      obtain hnn : n = t + 1 := by omega
      have HN := Lib.hid hnn
      have e1 : decide ((n : Int) ≤ t) = false := by simp; omega
      clear hnn
      go_wp2_with fail
      rw [HN.out]
      exact HQ0.out _ _ _ _ _ _ _ _ _ _ _ _ _ _ _ _ _ _ _ _ _ _ _ _ _ _ _ _ _ _ _ _ _ _ _ _ _ _ _ _ _ _ _ _ _ _ _ _ _ _ _ _ _ _ _ _ _ _ _ _ _ _ _ _ _ HBE.out
    case pos =>
      have e1 : decide ((n : Int) ≤ t) = true := by simp; omega
      obtain ⟨hb1, hb2⟩ := HHB.out n hnt
      obtain ⟨⟨⟨k, p, came, lf, st⟩, lg⟩, hy, hgy, hlow, htop⟩ := ff12 HT.out hnt HQA.out HGX.out
      dsimp only at hgy hlow htop
      obtain ⟨hv, hhv⟩ : ∃ hv, hh12 d (Q.map (·.z)) x.z n = hv := ⟨_, rfl⟩
      have HHV := Lib.hid hhv
      rw [hhv] at hb1 hb2
      rw [hhv] at hlow htop ⊢
      have HLO := Lib.hid hlow
      have HTO := Lib.hid htop
      have HY := Lib.hid hy
      have HGY := Lib.hid hgy
      have HME := Lib.hid (HMD.out.keep HBE.out)
      have HB1 : Hid (Below w1.heap.size w1 we) := Lib.hid (by rw [HZ1.out]; exact HME.out.bl)
      have hgl := HGB.out _ hgy
      have hkk := hgy.lt
      have hpp := hgy.on.lt
      have hbk := HBD.out _ (List.getElem_mem hkk)
      rw [me_at12 hkk] at hbk
      dsimp only at hbk
      obtain ⟨XC, adc, gg, rc, KA, kc, bz, bb, LK1⟩ := HM1.out.look HH.out hkk hpp
      dsimp only at LK1
      have LK := LK1.keep HB1.out
      clear LK1
      obtain ⟨mA, mc, mB, md, mD, mk, me⟩ := XC
      have hxD : mD = some adc := LK.xD
      have hxk : mk = (co11 d k).length := LK.xk
      subst hxD hxk
      have hlen : ag12 d ⟨k, p, came, lf, st⟩ = ar12 d (co11 d k) p := rfl
      have hgh : gh12 d ⟨k, p, came, lf, st⟩ = (((me10 d k).a.length + (me10 d k).l.length : Nat) : Int) + (zr12 (rw10s d k).1 p).2.length := rfl
      have HLEN := Lib.hid hlen
      have HGH := Lib.hid hgh
      have hgl2 : ((zr12 (rw10s d k).1 p).2.length : Int) ≤ 256 := hgl
      have HFO : Hid (fo12 d ⟨k, p, came, lf, st⟩ = co11 d k) := Lib.hid rfl
      clear hhv hlow htop hy hgy hlen hgh hgl
      obtain ⟨y0, y1, y2⟩ := HME.out.sf.at_ HY.out
      dsimp only at y0 y1 y2
      obtain ⟨la, hla⟩ : ∃ la, (me10 d k).a.length = la := ⟨_, rfl⟩
      obtain ⟨ll, hll⟩ : ∃ ll, (me10 d k).l.length = ll := ⟨_, rfl⟩
      obtain ⟨kl, hkl⟩ : ∃ kl, (zr12 (rw10s d k).1 p).2.length = kl := ⟨_, rfl⟩
      obtain ⟨ln, hln⟩ : ∃ ln, (co11 d k).length = ln := ⟨_, rfl⟩
      have hpp : p < (co11 d k).length := hpp
      obtain ⟨⟨m0, m1, m2, m3, m4, m5, m6, m7⟩, -, -, i0, i1, i2, r0, r1, r2⟩ := LK
      dsimp only at m0 m1 m2 m3 m4 m5 m6 m7 hkk
      have HLA := Lib.hid hla
      have HLL := Lib.hid hll
      have HKL := Lib.hid hkl
      have HLN := Lib.hid hln
      rw [hla] at m0 hbk
      rw [hll] at m1 hbk
      rw [hkl] at r2 hgl2
      rw [hln] at m7 r0 hpp
      obtain ⟨z2, hz2⟩ : ∃ z, (me10 d k).r = z := ⟨_, rfl⟩
      obtain ⟨z3, hz3⟩ : ∃ z, (me10 d k).q = z := ⟨_, rfl⟩
      obtain ⟨z4, hz4⟩ : ∃ z, (me10 d k).f = z := ⟨_, rfl⟩
      obtain ⟨z5, hz5⟩ : ∃ z, (me10 d k).s = z := ⟨_, rfl⟩
      obtain ⟨z6, hz6⟩ : ∃ z, (me10 d k).h = z := ⟨_, rfl⟩
      rw [hz2] at m2
      rw [hz3] at m3
      rw [hz4] at m4
      rw [hz5] at m5
      rw [hz6] at m6
      have hl1 := hbk.1
      have hl2 := hbk.2.1
      have hl3 := hbk.2.2
      rw [hln] at hl3
      rw [HSN.out] at hkk
      have HKK := Lib.hid hkk
      clear hla hll hkl hln hz2 hz3 hz4 hz5 hz6 hbk
      have HD2 := Lib.hid (HD1.out.keep HB1.out)
      obtain ⟨d0, d1, d2, d3, d4⟩ := HD2.out
      dsimp only at d1 d2 d3
      rw [HSN.out] at d3
      have c1 : (n : Int) < (t : Int) + 1 := by omega
      have c2 : (k : Int) < sn := by omega
      have c3 : (p : Int) < ln := by omega
      go_upto_region 17 with (fail)
      refine wp_region_L [10] (S := fun w' => w'.cell? (⟨B, 2, none⟩) = some (.slice (some ad8) sn cc) ∧ w'.cell? (⟨Gb, n * 3, none⟩) = some (.int .i64 k) ∧ w'.cell? (ad8.add (k * 8)) = some (.slice mA la mc) ∧ w'.cell? (⟨(ad8.add (k * 8)).block, (ad8.add (k * 8)).off + 1, none⟩) = some (.slice mB ll md) ∧ w'.cell? (⟨(ad8.add (k * 8)).block, (ad8.add (k * 8)).off + 2, none⟩) = some (.int .u8 z2) ∧ w'.cell? (⟨(ad8.add (k * 8)).block, (ad8.add (k * 8)).off + 3, none⟩) = some (.bool z3) ∧ w'.cell? (⟨(ad8.add (k * 8)).block, (ad8.add (k * 8)).off + 4, none⟩) = some (.int .i64 z4) ∧ w'.cell? (⟨(ad8.add (k * 8)).block, (ad8.add (k * 8)).off + 5, none⟩) = some (.int .i64 z5) ∧ w'.cell? (⟨(ad8.add (k * 8)).block, (ad8.add (k * 8)).off + 6, none⟩) = some (.int .i64 z6) ∧ w'.cell? (⟨(ad8.add (k * 8)).block, (ad8.add (k * 8)).off + 7, none⟩) = some (.slice (some adc) ln me)) (by kernel_rfl) (⟨d3, y0, m0, m1, m2, m3, m4, m5, m6, m7⟩) (fun hHeld => ?_)
      refine wpL_reckon (i := 0) (v := ?_) rfl (by kernel_rfl) (fun _ _ _ h => HP.out _ _ _ _ _ h) (Or.inl ⟨by rfl, ?_⟩) (Or.inr (by assumption)) ?_
      rotate_left 1
      · intro w _; go_simp; try with_reducible rfl
      try simp only [Act.put, List.getElem_toArray, List.getElem_cons_zero, List.getElem_cons_succ, List.setIfInBounds_toArray, List.set_cons_zero, List.set_cons_succ]
      refine wpL_take (i := 1) (v := ?_) rfl (by kernel_rfl) (fun _ _ _ h => HP.out _ _ _ _ _ h) (Or.inl ⟨by rfl, ?_⟩) (by assumption) ?_
      rotate_left 1
      · intro w hSw; (try dsimp only at hSw); obtain ⟨s0, s1, s2, s3, s4, s5, s6, s7, s8, s9⟩ := hSw; go_simp; try with_reducible rfl
      try simp only [Act.put, List.getElem_toArray, List.getElem_cons_zero, List.getElem_cons_succ, List.setIfInBounds_toArray, List.set_cons_zero, List.set_cons_succ]
      refine wpL_reckon (i := 2) (v := ?_) rfl (by kernel_rfl) (fun _ _ _ h => HP.out _ _ _ _ _ h) (Or.inl ⟨by rfl, ?_⟩) (Or.inr (by assumption)) ?_
      rotate_left 1
      · intro w _; go_simp; try with_reducible rfl
      try simp only [Act.put, List.getElem_toArray, List.getElem_cons_zero, List.getElem_cons_succ, List.setIfInBounds_toArray, List.set_cons_zero, List.set_cons_succ]
      refine wpL_reckon (i := 3) (v := ?_) rfl (by kernel_rfl) (fun _ _ _ h => HP.out _ _ _ _ _ h) (Or.inl ⟨by rfl, ?_⟩) (Or.inr (by assumption)) ?_
      rotate_left 1
      · intro w _; go_simp; try with_reducible rfl
      try simp only [Act.put, List.getElem_toArray, List.getElem_cons_zero, List.getElem_cons_succ, List.setIfInBounds_toArray, List.set_cons_zero, List.set_cons_succ]
      refine wpL_reckon (i := 4) (v := ?_) rfl (by kernel_rfl) (fun _ _ _ h => HP.out _ _ _ _ _ h) (Or.inl ⟨by rfl, ?_⟩) (Or.inr (by assumption)) ?_
      rotate_left 1
      · intro w _; go_simp; try with_reducible rfl
      try simp only [Act.put, List.getElem_toArray, List.getElem_cons_zero, List.getElem_cons_succ, List.setIfInBounds_toArray, List.set_cons_zero, List.set_cons_succ]
      refine wpL_reckon (i := 5) (v := ?_) rfl (by kernel_rfl) (fun _ _ _ h => HP.out _ _ _ _ _ h) (Or.inl ⟨by rfl, ?_⟩) (Or.inr (by assumption)) ?_
      rotate_left 1
      · intro w _; go_simp; try with_reducible rfl
      try simp only [Act.put, List.getElem_toArray, List.getElem_cons_zero, List.getElem_cons_succ, List.setIfInBounds_toArray, List.set_cons_zero, List.set_cons_succ]
      refine wpL_take (i := 6) (v := ?_) rfl (by kernel_rfl) (fun _ _ _ h => HP.out _ _ _ _ _ h) (Or.inl ⟨by rfl, ?_⟩) (by assumption) ?_
      rotate_left 1
      · intro w hSw; (try dsimp only at hSw); obtain ⟨s0, s1, s2, s3, s4, s5, s6, s7, s8, s9⟩ := hSw; go_simp; try with_reducible rfl
      try simp only [Act.put, List.getElem_toArray, List.getElem_cons_zero, List.getElem_cons_succ, List.setIfInBounds_toArray, List.set_cons_zero, List.set_cons_succ]
      refine wpL_reckon (i := 7) (v := ?_) rfl (by kernel_rfl) (fun _ _ _ h => HP.out _ _ _ _ _ h) (Or.inl ⟨by rfl, ?_⟩) (Or.inr (by assumption)) ?_
      rotate_left 1
      · intro w _; go_simp; try with_reducible rfl
      try simp only [Act.put, List.getElem_toArray, List.getElem_cons_zero, List.getElem_cons_succ, List.setIfInBounds_toArray, List.set_cons_zero, List.set_cons_succ]
      refine wpL_take (i := 8) (v := ?_) rfl (by kernel_rfl) (fun _ _ _ h => HP.out _ _ _ _ _ h) (Or.inl ⟨by rfl, ?_⟩) (by assumption) ?_
      rotate_left 1
      · intro w hSw; (try dsimp only at hSw); obtain ⟨s0, s1, s2, s3, s4, s5, s6, s7, s8, s9⟩ := hSw; go_simp; try with_reducible rfl
      try simp only [Act.put, List.getElem_toArray, List.getElem_cons_zero, List.getElem_cons_succ, List.setIfInBounds_toArray, List.set_cons_zero, List.set_cons_succ]
      refine wpL_ready (rs := [9]) (by kernel_rfl) (by simp) ?_
      refine AllL.cons rfl (fun K hK => ?_) AllL.nil
      go_simp
      refine hK.out _ _ (⟨(new1.cell (cell_lt d3)).trans d3, (new1.cell (cell_lt y0)).trans y0, (new1.cell (cell_lt m0)).trans m0, (new1.cell (cell_lt m1)).trans m1, (new1.cell (cell_lt m2)).trans m2, (new1.cell (cell_lt m3)).trans m3, (new1.cell (cell_lt m4)).trans m4, (new1.cell (cell_lt m5)).trans m5, (new1.cell (cell_lt m6)).trans m6, (new1.cell (cell_lt m7)).trans m7⟩) (fun hHeld => ?_)
      clear hK K
      try simp only [Act.put, List.getElem_toArray, List.getElem_cons_zero, List.getElem_cons_succ, List.setIfInBounds_toArray, List.set_cons_zero, List.set_cons_succ]
      refine wpL_ready (rs := [10]) (by kernel_rfl) (by simp) ?_
      refine AllL.late rfl (by kernel_rfl) (fun K hK => ?_) AllL.nil
      go_simp
      refine hK.out _ _ ?_
      clear hK K
      try simp only [Act.put, List.getElem_toArray, List.getElem_cons_zero, List.getElem_cons_succ, List.setIfInBounds_toArray, List.set_cons_zero, List.set_cons_succ]
      refine wpL_done (by kernel_rfl) ?_ _
      generalize hwf : (we.alloc (.cells #[.slice mA la mc, .slice mB ll md, .int .u8 z2, .bool z3, .int .i64 z4, .int .i64 z5, .int .i64 z6, .slice (some adc) ln me] 39)).drew = wf
      have hbf : Below we.heap.size we wf := by rw [← hwf]; exact below_draws new1 1
      obtain ⟨I, hI⟩ : ∃ I, we.heap.size = I := ⟨_, rfl⟩
      have hj : wf.cell? ⟨I, 0, none⟩ = some (.slice mA la mc) ∧ wf.cell? ⟨I, 1, none⟩ = some (.slice mB ll md) ∧ wf.cell? ⟨I, 7, none⟩ = some (.slice (some adc) ln me) := by
        rw [← hI, ← hwf]
        refine ⟨?_, ?_, ?_⟩ <;> simp [go_sem]
      obtain ⟨j0, j1, j7⟩ := hj
      have kp : ∀ {a : Addr} {v : Value}, we.cell? a = some v → wf.cell? a = some v := fun hv => (hbf.cell (cell_lt hv)).trans hv
      replace y0 := kp y0
      replace y1 := kp y1
      replace r0 := kp r0
      replace r2 := kp r2
      replace i1 := kp i1
      replace d3 := kp d3
      have HBF := Lib.hid (below_on HBE.out hbf)
      have HBF1 := Lib.hid (below_on HB1.out hbf)
      rw [hI]
      clear hwf hbf hI kp m0 m1 m2 m3 m4 m5 m6 m7 y2 i0 i2 r1 d0 d1 d2 d4 HBE
      have e2 : IntKind.i64.wrap (hv + (la : Int)) = hv + la := wrap_small (by omega)
      have e3 : IntKind.i64.wrap (hv + (la : Int) + (ll : Int)) = hv + la + ll := wrap_small (by omega)
      have e4 : IntKind.i64.wrap (hv + (la : Int) + (ll : Int) + (kl : Int)) = hv + la + ll + kl := wrap_small (by omega)
      go_upto_region 18 with (fail)
      refine wp_region_held_drew (S := fun w' => w'.cell? (⟨I, 0, none⟩) = some (.slice mA la mc) ∧ w'.cell? (⟨I, 1, none⟩) = some (.slice mB ll md) ∧ w'.cell? (⟨Gb, n * 3, none⟩) = some (.int .i64 k) ∧ w'.cell? (⟨Gb, n * 3 + 1, none⟩) = some (.int .i64 p) ∧ w'.cell? (⟨gR, k, none⟩) = some (.slice (some ⟨gg, 0, none⟩) ln rc) ∧ w'.cell? (⟨gg, p * 2 + 1, none⟩) = some (.slice KA kl kc)) (by kernel_rfl) (⟨j0, j1, y0, y1, r0, r2⟩) (fun hHeld => ?_)
      refine wpAnyH_take (i := 0) (v := ?_) rfl (by kernel_rfl) (by kernel_rfl) (by kernel_rfl) (fun _ _ _ h => HP.out _ _ _ _ _ h) (Or.inl ⟨by rfl, ?_⟩) (by assumption) ?_
      rotate_left 1
      · intro w _; go_simp; try with_reducible rfl
      try simp only [Act.put, List.getElem_toArray, List.getElem_cons_zero, List.getElem_cons_succ, List.setIfInBounds_toArray, List.set_cons_zero, List.set_cons_succ]
      refine wpAnyH_take (i := 1) (v := ?_) rfl (by kernel_rfl) (by kernel_rfl) (by kernel_rfl) (fun _ _ _ h => HP.out _ _ _ _ _ h) (Or.inl ⟨by rfl, ?_⟩) (by assumption) ?_
      rotate_left 1
      · intro w _; go_simp; try with_reducible rfl
      try simp only [Act.put, List.getElem_toArray, List.getElem_cons_zero, List.getElem_cons_succ, List.setIfInBounds_toArray, List.set_cons_zero, List.set_cons_succ]
      refine wpAnyH_take (i := 2) (v := ?_) rfl (by kernel_rfl) (by kernel_rfl) (by kernel_rfl) (fun _ _ _ h => HP.out _ _ _ _ _ h) (Or.inl ⟨by rfl, ?_⟩) (by assumption) ?_
      rotate_left 1
      · intro w hSw; (try dsimp only at hSw); obtain ⟨s0, s1, s2, s3, s4, s5⟩ := hSw; go_simp; try with_reducible rfl
      try simp only [Act.put, List.getElem_toArray, List.getElem_cons_zero, List.getElem_cons_succ, List.setIfInBounds_toArray, List.set_cons_zero, List.set_cons_succ]
      refine wpAnyH_take (i := 3) (v := ?_) rfl (by kernel_rfl) (by kernel_rfl) (by kernel_rfl) (fun _ _ _ h => HP.out _ _ _ _ _ h) (Or.inl ⟨by rfl, ?_⟩) (by assumption) ?_
      rotate_left 1
      · intro w _; go_simp; try with_reducible rfl
      try simp only [Act.put, List.getElem_toArray, List.getElem_cons_zero, List.getElem_cons_succ, List.setIfInBounds_toArray, List.set_cons_zero, List.set_cons_succ]
      refine wpAnyH_take (i := 4) (v := ?_) rfl (by kernel_rfl) (by kernel_rfl) (by kernel_rfl) (fun _ _ _ h => HP.out _ _ _ _ _ h) (Or.inl ⟨by rfl, ?_⟩) (by assumption) ?_
      rotate_left 1
      · intro w _; go_simp; try with_reducible rfl
      try simp only [Act.put, List.getElem_toArray, List.getElem_cons_zero, List.getElem_cons_succ, List.setIfInBounds_toArray, List.set_cons_zero, List.set_cons_succ]
      refine wpAnyH_take (i := 5) (v := ?_) rfl (by kernel_rfl) (by kernel_rfl) (by kernel_rfl) (fun _ _ _ h => HP.out _ _ _ _ _ h) (Or.inl ⟨by rfl, ?_⟩) (by assumption) ?_
      rotate_left 1
      · intro w _; go_simp; try with_reducible rfl
      try simp only [Act.put, List.getElem_toArray, List.getElem_cons_zero, List.getElem_cons_succ, List.setIfInBounds_toArray, List.set_cons_zero, List.set_cons_succ]
      refine wpAnyH_take (i := 6) (v := ?_) rfl (by kernel_rfl) (by kernel_rfl) (by kernel_rfl) (fun _ _ _ h => HP.out _ _ _ _ _ h) (Or.inl ⟨by rfl, ?_⟩) (by assumption) ?_
      rotate_left 1
      · intro w hSw; (try dsimp only at hSw); obtain ⟨s0, s1, s2, s3, s4, s5⟩ := hSw; go_simp; try with_reducible rfl
      try simp only [Act.put, List.getElem_toArray, List.getElem_cons_zero, List.getElem_cons_succ, List.setIfInBounds_toArray, List.set_cons_zero, List.set_cons_succ]
      refine wpAnyH_take (i := 7) (v := ?_) rfl (by kernel_rfl) (by kernel_rfl) (by kernel_rfl) (fun _ _ _ h => HP.out _ _ _ _ _ h) (Or.inl ⟨by rfl, ?_⟩) (by assumption) ?_
      rotate_left 1
      · intro w _; go_simp; try with_reducible rfl
      try simp only [Act.put, List.getElem_toArray, List.getElem_cons_zero, List.getElem_cons_succ, List.setIfInBounds_toArray, List.set_cons_zero, List.set_cons_succ]
      refine wpAnyH_take (i := 8) (v := ?_) rfl (by kernel_rfl) (by kernel_rfl) (by kernel_rfl) (fun _ _ _ h => HP.out _ _ _ _ _ h) (Or.inl ⟨by rfl, ?_⟩) (by assumption) ?_
      rotate_left 1
      · intro w _; go_simp; try with_reducible rfl
      try simp only [Act.put, List.getElem_toArray, List.getElem_cons_zero, List.getElem_cons_succ, List.setIfInBounds_toArray, List.set_cons_zero, List.set_cons_succ]
      refine wpAnyH_take (i := 9) (v := ?_) rfl (by kernel_rfl) (by kernel_rfl) (by kernel_rfl) (fun _ _ _ h => HP.out _ _ _ _ _ h) (Or.inl ⟨by rfl, ?_⟩) (by assumption) ?_
      rotate_left 1
      · intro w _; go_simp; try with_reducible rfl
      try simp only [Act.put, List.getElem_toArray, List.getElem_cons_zero, List.getElem_cons_succ, List.setIfInBounds_toArray, List.set_cons_zero, List.set_cons_succ]
      refine wpAnyH_take (i := 10) (v := ?_) rfl (by kernel_rfl) (by kernel_rfl) (by kernel_rfl) (fun _ _ _ h => HP.out _ _ _ _ _ h) (Or.inl ⟨by rfl, ?_⟩) (by assumption) ?_
      rotate_left 1
      · intro w _; go_simp; try with_reducible rfl
      try simp only [Act.put, List.getElem_toArray, List.getElem_cons_zero, List.getElem_cons_succ, List.setIfInBounds_toArray, List.set_cons_zero, List.set_cons_succ]
      refine wpAnyH_take (i := 11) (v := ?_) rfl (by kernel_rfl) (by kernel_rfl) (by kernel_rfl) (fun _ _ _ h => HP.out _ _ _ _ _ h) (Or.inl ⟨by rfl, ?_⟩) (by assumption) ?_
      rotate_left 1
      · intro w _; go_simp; try with_reducible rfl
      try simp only [Act.put, List.getElem_toArray, List.getElem_cons_zero, List.getElem_cons_succ, List.setIfInBounds_toArray, List.set_cons_zero, List.set_cons_succ]
      refine wpAnyH_take (i := 12) (v := ?_) rfl (by kernel_rfl) (by kernel_rfl) (by kernel_rfl) (fun _ _ _ h => HP.out _ _ _ _ _ h) (Or.inl ⟨by rfl, ?_⟩) (by assumption) ?_
      rotate_left 1
      · intro w _; go_simp; try with_reducible rfl
      try simp only [Act.put, List.getElem_toArray, List.getElem_cons_zero, List.getElem_cons_succ, List.setIfInBounds_toArray, List.set_cons_zero, List.set_cons_succ]
      refine wpAnyH_take (i := 13) (v := ?_) rfl (by kernel_rfl) (by kernel_rfl) (by kernel_rfl) (fun _ _ _ h => HP.out _ _ _ _ _ h) (Or.inl ⟨by rfl, ?_⟩) (by assumption) ?_
      rotate_left 1
      · intro w _; go_simp; try with_reducible rfl
      try simp only [Act.put, List.getElem_toArray, List.getElem_cons_zero, List.getElem_cons_succ, List.setIfInBounds_toArray, List.set_cons_zero, List.set_cons_succ]
      refine wpAnyH_take (i := 14) (v := ?_) rfl (by kernel_rfl) (by kernel_rfl) (by kernel_rfl) (fun _ _ _ h => HP.out _ _ _ _ _ h) (Or.inl ⟨by rfl, ?_⟩) (by assumption) ?_
      rotate_left 1
      · intro w hSw; (try dsimp only at hSw); obtain ⟨s0, s1, s2, s3, s4, s5⟩ := hSw; go_simp; try with_reducible rfl
      try simp only [Act.put, List.getElem_toArray, List.getElem_cons_zero, List.getElem_cons_succ, List.setIfInBounds_toArray, List.set_cons_zero, List.set_cons_succ]
      refine wpAnyH_take (i := 15) (v := ?_) rfl (by kernel_rfl) (by kernel_rfl) (by kernel_rfl) (fun _ _ _ h => HP.out _ _ _ _ _ h) (Or.inl ⟨by rfl, ?_⟩) (by assumption) ?_
      rotate_left 1
      · intro w _; go_simp; try with_reducible rfl
      try simp only [Act.put, List.getElem_toArray, List.getElem_cons_zero, List.getElem_cons_succ, List.setIfInBounds_toArray, List.set_cons_zero, List.set_cons_succ]
      refine wpAnyH_take (i := 16) (v := ?_) rfl (by kernel_rfl) (by kernel_rfl) (by kernel_rfl) (fun _ _ _ h => HP.out _ _ _ _ _ h) (Or.inl ⟨by rfl, ?_⟩) (by assumption) ?_
      rotate_left 1
      · intro w hSw; (try dsimp only at hSw); obtain ⟨s0, s1, s2, s3, s4, s5⟩ := hSw; go_simp; try with_reducible rfl
      try simp only [Act.put, List.getElem_toArray, List.getElem_cons_zero, List.getElem_cons_succ, List.setIfInBounds_toArray, List.set_cons_zero, List.set_cons_succ]
      refine wpAnyH_take (i := 17) (v := ?_) rfl (by kernel_rfl) (by kernel_rfl) (by kernel_rfl) (fun _ _ _ h => HP.out _ _ _ _ _ h) (Or.inl ⟨by rfl, ?_⟩) (by assumption) ?_
      rotate_left 1
      · intro w _; go_simp; try with_reducible rfl
      try simp only [Act.put, List.getElem_toArray, List.getElem_cons_zero, List.getElem_cons_succ, List.setIfInBounds_toArray, List.set_cons_zero, List.set_cons_succ]
      refine wpAnyH_take (i := 18) (v := ?_) rfl (by kernel_rfl) (by kernel_rfl) (by kernel_rfl) (fun _ _ _ h => HP.out _ _ _ _ _ h) (Or.inl ⟨by rfl, ?_⟩) (by assumption) ?_
      rotate_left 1
      · intro w _; go_simp; try with_reducible rfl
      try simp only [Act.put, List.getElem_toArray, List.getElem_cons_zero, List.getElem_cons_succ, List.setIfInBounds_toArray, List.set_cons_zero, List.set_cons_succ]
      refine wpAnyH_take (i := 19) (v := ?_) rfl (by kernel_rfl) (by kernel_rfl) (by kernel_rfl) (fun _ _ _ h => HP.out _ _ _ _ _ h) (Or.inl ⟨by rfl, ?_⟩) (by assumption) ?_
      rotate_left 1
      · intro w _; go_simp; try with_reducible rfl
      try simp only [Act.put, List.getElem_toArray, List.getElem_cons_zero, List.getElem_cons_succ, List.setIfInBounds_toArray, List.set_cons_zero, List.set_cons_succ]
      refine wpAnyH_take (i := 20) (v := ?_) rfl (by kernel_rfl) (by kernel_rfl) (by kernel_rfl) (fun _ _ _ h => HP.out _ _ _ _ _ h) (Or.inl ⟨by rfl, ?_⟩) (by assumption) ?_
      rotate_left 1
      · intro w _; go_simp; try with_reducible rfl
      try simp only [Act.put, List.getElem_toArray, List.getElem_cons_zero, List.getElem_cons_succ, List.setIfInBounds_toArray, List.set_cons_zero, List.set_cons_succ]
      refine wpAnyH_take (i := 21) (v := ?_) rfl (by kernel_rfl) (by kernel_rfl) (by kernel_rfl) (fun _ _ _ h => HP.out _ _ _ _ _ h) (Or.inl ⟨by rfl, ?_⟩) (by assumption) ?_
      rotate_left 1
      · intro w hSw; (try dsimp only at hSw); obtain ⟨s0, s1, s2, s3, s4, s5⟩ := hSw; go_simp; try with_reducible rfl
      try simp only [Act.put, List.getElem_toArray, List.getElem_cons_zero, List.getElem_cons_succ, List.setIfInBounds_toArray, List.set_cons_zero, List.set_cons_succ]
      refine wpAnyH_take (i := 22) (v := ?_) rfl (by kernel_rfl) (by kernel_rfl) (by kernel_rfl) (fun _ _ _ h => HP.out _ _ _ _ _ h) (Or.inl ⟨by rfl, ?_⟩) (by assumption) ?_
      rotate_left 1
      · intro w _; go_simp; try with_reducible rfl
      try simp only [Act.put, List.getElem_toArray, List.getElem_cons_zero, List.getElem_cons_succ, List.setIfInBounds_toArray, List.set_cons_zero, List.set_cons_succ]
      refine wpAnyH_take (i := 23) (v := ?_) rfl (by kernel_rfl) (by kernel_rfl) (by kernel_rfl) (fun _ _ _ h => HP.out _ _ _ _ _ h) (Or.inl ⟨by rfl, ?_⟩) (by assumption) ?_
      rotate_left 1
      · intro w _; go_simp; try with_reducible rfl
      try simp only [Act.put, List.getElem_toArray, List.getElem_cons_zero, List.getElem_cons_succ, List.setIfInBounds_toArray, List.set_cons_zero, List.set_cons_succ]
      refine wpAnyH_take (i := 24) (v := ?_) rfl (by kernel_rfl) (by kernel_rfl) (by kernel_rfl) (fun _ _ _ h => HP.out _ _ _ _ _ h) (Or.inl ⟨by rfl, ?_⟩) (by assumption) ?_
      rotate_left 1
      · intro w hSw; (try dsimp only at hSw); obtain ⟨s0, s1, s2, s3, s4, s5⟩ := hSw; go_simp; try with_reducible rfl
      try simp only [Act.put, List.getElem_toArray, List.getElem_cons_zero, List.getElem_cons_succ, List.setIfInBounds_toArray, List.set_cons_zero, List.set_cons_succ]
      refine wpAnyH_take (i := 25) (v := ?_) rfl (by kernel_rfl) (by kernel_rfl) (by kernel_rfl) (fun _ _ _ h => HP.out _ _ _ _ _ h) (Or.inl ⟨by rfl, ?_⟩) (by assumption) ?_
      rotate_left 1
      · intro w _; go_simp; try with_reducible rfl
      try simp only [Act.put, List.getElem_toArray, List.getElem_cons_zero, List.getElem_cons_succ, List.setIfInBounds_toArray, List.set_cons_zero, List.set_cons_succ]
      refine wpAnyH_take (i := 26) (v := ?_) rfl (by kernel_rfl) (by kernel_rfl) (by kernel_rfl) (fun _ _ _ h => HP.out _ _ _ _ _ h) (Or.inl ⟨by rfl, ?_⟩) (by assumption) ?_
      rotate_left 1
      · intro w _; go_simp; try with_reducible rfl
      try simp only [Act.put, List.getElem_toArray, List.getElem_cons_zero, List.getElem_cons_succ, List.setIfInBounds_toArray, List.set_cons_zero, List.set_cons_succ]
      refine wpAnyH_take (i := 27) (v := ?_) rfl (by kernel_rfl) (by kernel_rfl) (by kernel_rfl) (fun _ _ _ h => HP.out _ _ _ _ _ h) (Or.inl ⟨by rfl, ?_⟩) (by assumption) ?_
      rotate_left 1
      · intro w _; go_simp; try with_reducible rfl
      try simp only [Act.put, List.getElem_toArray, List.getElem_cons_zero, List.getElem_cons_succ, List.setIfInBounds_toArray, List.set_cons_zero, List.set_cons_succ]
      refine wpAnyH_done (by kernel_rfl) ?_ _
      clear hHeld
      generalize hwg : wf.drew = wg
      have hbg : Below wf.heap.size wf wg := by rw [← hwg]; exact below_draws (Below.refl _ _) 1
      have kp : ∀ {a : Addr} {v : Value}, wf.cell? a = some v → wg.cell? a = some v := fun hv => (hbg.cell (cell_lt hv)).trans hv
      replace y1 := kp y1
      replace i1 := kp i1
      replace d3 := kp d3
      replace j7 := kp j7
      have HBG := Lib.hid (below_on HBF.out hbg)
      have HBG1 := Lib.hid (below_on HBF1.out hbg)
      clear hwg hbg kp y0 r0 r2 j0 j1 HBF HBF1
      by_cases hlt : n < t
      case pos =>
        have e5 : decide ((n : Int) < t) = true := by simp; omega
        obtain ⟨h30, hnx⟩ := HLO.out hlt
        obtain ⟨j, hj, hjl, -⟩ := HH.out.call (k := k) (p := p) (by rw [HSN.out]; exact HKK.out) (by rw [HLN.out]; exact hpp) h30
        obtain ⟨xj, hq8, -⟩ := HM1.out.meth hjl
        have q0 := (hq8.keep HBG1.out).1
        dsimp only at q0
        obtain ⟨qA, qc, qB, qd, qD, qk, qe⟩ := xj
        dsimp only at q0
        rw [hj] at i1
        have hlj : ag12 d ⟨k, p, came, lf, st⟩ = ((me10 d j).a.length : Int) := by rw [HLEN.out, ar12, hj, Int.toNat_natCast]
        have hbj := (HBD.out _ (List.getElem_mem hjl)).1
        rw [me_at12 hjl] at hbj
        dsimp only at hbj
        have c4 : (j : Int) < sn := by rw [← HSN.out]; omega
        obtain ⟨lj, hljj⟩ : ∃ lj, (me10 d j).a.length = lj := ⟨_, rfl⟩
        rw [hljj] at q0 hlj hbj
        have HNX : Hid (hh12 d (Q.map (·.z)) x.z (n + 1) = hv + la + ll + kl - lj) := Lib.hid (by
          rw [hnx, hlj, HGH.out, HLA.out, HLL.out, HKL.out]
          omega)
        have e6 : IntKind.i64.wrap (hv + (la : Int) + (ll : Int) + (kl : Int) - (lj : Int)) = hv + la + ll + kl - lj := wrap_small (by omega)
        clear h30 hnx hj hjl hq8 hlj hljj
        go_upto_region 20 with (fail)
        refine wp_region_held_drew (S := fun w' => w'.cell? (⟨B, 2, none⟩) = some (.slice (some ad8) sn cc) ∧ w'.cell? (⟨I, 7, none⟩) = some (.slice (some adc) ln me) ∧ w'.cell? (⟨Gb, n * 3 + 1, none⟩) = some (.int .i64 p) ∧ w'.cell? (⟨(adc.add (p * 3)).block, (adc.add (p * 3)).off + 1, none⟩) = some (.int .i64 j) ∧ w'.cell? (ad8.add (j * 8)) = some (.slice qA lj qc)) (by kernel_rfl) (⟨d3, j7, y1, i1, q0⟩) (fun hHeld => ?_)
        refine wpAnyH_take (i := 0) (v := ?_) rfl (by kernel_rfl) (by kernel_rfl) (by kernel_rfl) (fun _ _ _ h => HP.out _ _ _ _ _ h) (Or.inl ⟨by rfl, ?_⟩) (by assumption) ?_
        rotate_left 1
        · intro w _; go_simp; try with_reducible rfl
        try simp only [Act.put, List.getElem_toArray, List.getElem_cons_zero, List.getElem_cons_succ, List.setIfInBounds_toArray, List.set_cons_zero, List.set_cons_succ]
        refine wpAnyH_take (i := 1) (v := ?_) rfl (by kernel_rfl) (by kernel_rfl) (by kernel_rfl) (fun _ _ _ h => HP.out _ _ _ _ _ h) (Or.inl ⟨by rfl, ?_⟩) (by assumption) ?_
        rotate_left 1
        · intro w _; go_simp; try with_reducible rfl
        try simp only [Act.put, List.getElem_toArray, List.getElem_cons_zero, List.getElem_cons_succ, List.setIfInBounds_toArray, List.set_cons_zero, List.set_cons_succ]
        refine wpAnyH_take (i := 2) (v := ?_) rfl (by kernel_rfl) (by kernel_rfl) (by kernel_rfl) (fun _ _ _ h => HP.out _ _ _ _ _ h) (Or.inl ⟨by rfl, ?_⟩) (by assumption) ?_
        rotate_left 1
        · intro w hSw; (try dsimp only at hSw); obtain ⟨s0, s1, s2, s3, s4⟩ := hSw; go_simp; try with_reducible rfl
        try simp only [Act.put, List.getElem_toArray, List.getElem_cons_zero, List.getElem_cons_succ, List.setIfInBounds_toArray, List.set_cons_zero, List.set_cons_succ]
        refine wpAnyH_take (i := 3) (v := ?_) rfl (by kernel_rfl) (by kernel_rfl) (by kernel_rfl) (fun _ _ _ h => HP.out _ _ _ _ _ h) (Or.inl ⟨by rfl, ?_⟩) (by assumption) ?_
        rotate_left 1
        · intro w _; go_simp; try with_reducible rfl
        try simp only [Act.put, List.getElem_toArray, List.getElem_cons_zero, List.getElem_cons_succ, List.setIfInBounds_toArray, List.set_cons_zero, List.set_cons_succ]
        refine wpAnyH_take (i := 4) (v := ?_) rfl (by kernel_rfl) (by kernel_rfl) (by kernel_rfl) (fun _ _ _ h => HP.out _ _ _ _ _ h) (Or.inl ⟨by rfl, ?_⟩) (by assumption) ?_
        rotate_left 1
        · intro w hSw; (try dsimp only at hSw); obtain ⟨s0, s1, s2, s3, s4⟩ := hSw; go_simp; try with_reducible rfl
        try simp only [Act.put, List.getElem_toArray, List.getElem_cons_zero, List.getElem_cons_succ, List.setIfInBounds_toArray, List.set_cons_zero, List.set_cons_succ]
        refine wpAnyH_take (i := 5) (v := ?_) rfl (by kernel_rfl) (by kernel_rfl) (by kernel_rfl) (fun _ _ _ h => HP.out _ _ _ _ _ h) (Or.inl ⟨by rfl, ?_⟩) (by assumption) ?_
        rotate_left 1
        · intro w _; go_simp; try with_reducible rfl
        try simp only [Act.put, List.getElem_toArray, List.getElem_cons_zero, List.getElem_cons_succ, List.setIfInBounds_toArray, List.set_cons_zero, List.set_cons_succ]
        refine wpAnyH_take (i := 6) (v := ?_) rfl (by kernel_rfl) (by kernel_rfl) (by kernel_rfl) (fun _ _ _ h => HP.out _ _ _ _ _ h) (Or.inl ⟨by rfl, ?_⟩) (by assumption) ?_
        rotate_left 1
        · intro w _; go_simp; try with_reducible rfl
        try simp only [Act.put, List.getElem_toArray, List.getElem_cons_zero, List.getElem_cons_succ, List.setIfInBounds_toArray, List.set_cons_zero, List.set_cons_succ]
        refine wpAnyH_take (i := 7) (v := ?_) rfl (by kernel_rfl) (by kernel_rfl) (by kernel_rfl) (fun _ _ _ h => HP.out _ _ _ _ _ h) (Or.inl ⟨by rfl, ?_⟩) (by assumption) ?_
        rotate_left 1
        · intro w _; go_simp; try with_reducible rfl
        try simp only [Act.put, List.getElem_toArray, List.getElem_cons_zero, List.getElem_cons_succ, List.setIfInBounds_toArray, List.set_cons_zero, List.set_cons_succ]
        refine wpAnyH_take (i := 8) (v := ?_) rfl (by kernel_rfl) (by kernel_rfl) (by kernel_rfl) (fun _ _ _ h => HP.out _ _ _ _ _ h) (Or.inl ⟨by rfl, ?_⟩) (by assumption) ?_
        rotate_left 1
        · intro w _; go_simp; try with_reducible rfl
        try simp only [Act.put, List.getElem_toArray, List.getElem_cons_zero, List.getElem_cons_succ, List.setIfInBounds_toArray, List.set_cons_zero, List.set_cons_succ]
        refine wpAnyH_take (i := 9) (v := ?_) rfl (by kernel_rfl) (by kernel_rfl) (by kernel_rfl) (fun _ _ _ h => HP.out _ _ _ _ _ h) (Or.inl ⟨by rfl, ?_⟩) (by assumption) ?_
        rotate_left 1
        · intro w hSw; (try dsimp only at hSw); obtain ⟨s0, s1, s2, s3, s4⟩ := hSw; go_simp; try with_reducible rfl
        try simp only [Act.put, List.getElem_toArray, List.getElem_cons_zero, List.getElem_cons_succ, List.setIfInBounds_toArray, List.set_cons_zero, List.set_cons_succ]
        refine wpAnyH_take (i := 10) (v := ?_) rfl (by kernel_rfl) (by kernel_rfl) (by kernel_rfl) (fun _ _ _ h => HP.out _ _ _ _ _ h) (Or.inl ⟨by rfl, ?_⟩) (by assumption) ?_
        rotate_left 1
        · intro w _; go_simp; try with_reducible rfl
        try simp only [Act.put, List.getElem_toArray, List.getElem_cons_zero, List.getElem_cons_succ, List.setIfInBounds_toArray, List.set_cons_zero, List.set_cons_succ]
        refine wpAnyH_take (i := 11) (v := ?_) rfl (by kernel_rfl) (by kernel_rfl) (by kernel_rfl) (fun _ _ _ h => HP.out _ _ _ _ _ h) (Or.inl ⟨by rfl, ?_⟩) (by assumption) ?_
        rotate_left 1
        · intro w _; go_simp; try with_reducible rfl
        try simp only [Act.put, List.getElem_toArray, List.getElem_cons_zero, List.getElem_cons_succ, List.setIfInBounds_toArray, List.set_cons_zero, List.set_cons_succ]
        refine wpAnyH_take (i := 12) (v := ?_) rfl (by kernel_rfl) (by kernel_rfl) (by kernel_rfl) (fun _ _ _ h => HP.out _ _ _ _ _ h) (Or.inl ⟨by rfl, ?_⟩) (by assumption) ?_
        rotate_left 1
        · intro w hSw; (try dsimp only at hSw); obtain ⟨s0, s1, s2, s3, s4⟩ := hSw; go_simp; try with_reducible rfl
        try simp only [Act.put, List.getElem_toArray, List.getElem_cons_zero, List.getElem_cons_succ, List.setIfInBounds_toArray, List.set_cons_zero, List.set_cons_succ]
        refine wpAnyH_take (i := 13) (v := ?_) rfl (by kernel_rfl) (by kernel_rfl) (by kernel_rfl) (fun _ _ _ h => HP.out _ _ _ _ _ h) (Or.inl ⟨by rfl, ?_⟩) (by assumption) ?_
        rotate_left 1
        · intro w _; go_simp; try with_reducible rfl
        try simp only [Act.put, List.getElem_toArray, List.getElem_cons_zero, List.getElem_cons_succ, List.setIfInBounds_toArray, List.set_cons_zero, List.set_cons_succ]
        refine wpAnyH_take (i := 14) (v := ?_) rfl (by kernel_rfl) (by kernel_rfl) (by kernel_rfl) (fun _ _ _ h => HP.out _ _ _ _ _ h) (Or.inl ⟨by rfl, ?_⟩) (by assumption) ?_
        rotate_left 1
        · intro w _; go_simp; try with_reducible rfl
        try simp only [Act.put, List.getElem_toArray, List.getElem_cons_zero, List.getElem_cons_succ, List.setIfInBounds_toArray, List.set_cons_zero, List.set_cons_succ]
        refine wpAnyH_take (i := 15) (v := ?_) rfl (by kernel_rfl) (by kernel_rfl) (by kernel_rfl) (fun _ _ _ h => HP.out _ _ _ _ _ h) (Or.inl ⟨by rfl, ?_⟩) (by assumption) ?_
        rotate_left 1
        · intro w hSw; (try dsimp only at hSw); obtain ⟨s0, s1, s2, s3, s4⟩ := hSw; go_simp; try with_reducible rfl
        try simp only [Act.put, List.getElem_toArray, List.getElem_cons_zero, List.getElem_cons_succ, List.setIfInBounds_toArray, List.set_cons_zero, List.set_cons_succ]
        refine wpAnyH_take (i := 16) (v := ?_) rfl (by kernel_rfl) (by kernel_rfl) (by kernel_rfl) (fun _ _ _ h => HP.out _ _ _ _ _ h) (Or.inl ⟨by rfl, ?_⟩) (by assumption) ?_
        rotate_left 1
        · intro w _; go_simp; try with_reducible rfl
        try simp only [Act.put, List.getElem_toArray, List.getElem_cons_zero, List.getElem_cons_succ, List.setIfInBounds_toArray, List.set_cons_zero, List.set_cons_succ]
        refine wpAnyH_take (i := 17) (v := ?_) rfl (by kernel_rfl) (by kernel_rfl) (by kernel_rfl) (fun _ _ _ h => HP.out _ _ _ _ _ h) (Or.inl ⟨by rfl, ?_⟩) (by assumption) ?_
        rotate_left 1
        · intro w _; go_simp; try with_reducible rfl
        try simp only [Act.put, List.getElem_toArray, List.getElem_cons_zero, List.getElem_cons_succ, List.setIfInBounds_toArray, List.set_cons_zero, List.set_cons_succ]
        refine wpAnyH_take (i := 18) (v := ?_) rfl (by kernel_rfl) (by kernel_rfl) (by kernel_rfl) (fun _ _ _ h => HP.out _ _ _ _ _ h) (Or.inl ⟨by rfl, ?_⟩) (by assumption) ?_
        rotate_left 1
        · intro w _; go_simp; try with_reducible rfl
        try simp only [Act.put, List.getElem_toArray, List.getElem_cons_zero, List.getElem_cons_succ, List.setIfInBounds_toArray, List.set_cons_zero, List.set_cons_succ]
        refine wpAnyH_done (by kernel_rfl) ?_ _
        clear hHeld
        have HBH := Lib.hid (below_draws HBG.out 1)
        go_wp2_with fail
        exact ⟨⟨n + 1, by omega, by rw [HNX.out], by go_num, HBH⟩, by simp [intOf]; omega⟩
      case neg =>
        have e5 : decide ((n : Int) < t) = false := by simp; omega
        have HNX : Hid (hh12 d (Q.map (·.z)) x.z (n + 1) = hv + la + ll + kl) := Lib.hid (by
          rw [HTO.out hlt, HGH.out, HLA.out, HLL.out, HKL.out]
          omega)
        go_wp2_with fail
        exact ⟨⟨n + 1, by omega, by rw [HNX.out], by go_num, HBG⟩, by simp [intOf]; omega⟩
end Go.Proofs.YtmgppdjbmhjmbaaGreat
namespace Go.Proofs.YtmgppdjbmhjmbaaGreat
open Go.RowKit
set_option maxRecDepth 100000
set_option linter.unusedSimpArgs false
set_option linter.unusedVariables false

/-- A round of run begins so (two of its variables told). -/
def Nx12 (B : Nat) (w1 w' : World) (d : Md) (k0 : Nat) (xp : Prop) (f : Nat) (fv qv : Value) : Prop :=
  ∃ (Gb cc v aq : Nat) (s : Int) (x : Ff12) (Q : List Ff12), fv = .slice (some ⟨Gb, 0, none⟩) (Q.length + 1) cc ∧ qv = .int .i64 aq ∧ aq ≤ f ∧ Rs12 B w1 w' d k0 xp Gb (Q.length + 1) cc x Q f v s
/-- Run is over. -/
def On12 (B : Nat) (w1 w' : World) (d : Md) (k0 : Nat) (xp : Prop) : Prop :=
  ∃ f s v : Int, Tk12 w' (B + 1) f s v true ∧ f ≤ (ce12 d k0).1 ∧ s ≤ (ce12 d k0).2.1 ∧ v ≤ (ce12 d k0).2.2 ∧ (xp → f = (ce12 d k0).1 ∧ v = (ce12 d k0).2.2) ∧ Below (B + 1) w1 w'
theorem set_last {α : Type} (L : List α) (a b : α) : (L ++ [a]).set L.length b = L ++ [b] := by
  rw [List.set_append_right _ _ (Nat.le_refl _), Nat.sub_self]
  rfl
theorem at_last {α : Type} (L : List α) (a : α) : (L ++ [a])[L.length]? = some a := by
  rw [List.getElem?_append_right (Nat.le_refl _), Nat.sub_self]
  rfl
section
variable {B : Nat} {w1 w w' : World} {d : Md} {G n c : Nat} {L : List Ff12} {F s V : Int}
theorem Mi12.pop {x : Ff12} (h : Mi12 B w1 w d G (n + 1) c (L ++ [x]) F s V) : Mi12 B w1 w d G n c L F s V := ⟨h.sf.pop, h.tk, h.rs, h.bl⟩
/-- The turns of the top frame are written. -/
theorem Mi12.setLt {Q : List Ff12} {x : Ff12} {t : Nat} (h : Mi12 B w1 w d G n c (Q.reverse ++ [x]) F s V) (ht : Q.length = t) (q v : Nat) : Mi12 B w1 (w.setCell ⟨x.g, q, none⟩ (.int .i64 v)) d G n c (Q.reverse ++ [⟨⟨x.z.k, x.z.p, x.z.came, put9 x.z.lf q v, x.z.st⟩, x.g⟩]) F s V := by
  have hx : (Q.reverse ++ [x])[t]? = some x := by rw [← ht, ← List.length_reverse]; exact at_last _ _
  have h2 := h.setL (y := ⟨⟨x.z.k, x.z.p, x.z.came, put9 x.z.lf q v, x.z.st⟩, x.g⟩) hx rfl rfl rfl (q := q) (v := v) rfl
  have e : (Q.reverse ++ [x]).set t ⟨⟨x.z.k, x.z.p, x.z.came, put9 x.z.lf q v, x.z.st⟩, x.g⟩ = Q.reverse ++ [⟨⟨x.z.k, x.z.p, x.z.came, put9 x.z.lf q v, x.z.st⟩, x.g⟩] := by rw [← ht, ← List.length_reverse]; exact set_last _ _ _
  rwa [e] at h2
/-- It is over: what was taken is told. -/
theorem Mi12.done {f s v : Int} (h : Mi12 B w1 w d G n c L f s v) :
    Tk12 (((((w.setCell ⟨B + 2, 3, none⟩ (.bool true)).setCell ⟨B + 1, 0, none⟩ (.int .i64 f)).setCell ⟨B + 1, 1, none⟩ (.int .i64 s)).setCell ⟨B + 1, 2, none⟩ (.int .i64 v)).setCell ⟨B + 1, 3, none⟩ (.bool true)) (B + 1) f s v true ∧
    Below (B + 1) w1 (((((w.setCell ⟨B + 2, 3, none⟩ (.bool true)).setCell ⟨B + 1, 0, none⟩ (.int .i64 f)).setCell ⟨B + 1, 1, none⟩ (.int .i64 s)).setCell ⟨B + 1, 2, none⟩ (.int .i64 v)).setCell ⟨B + 1, 3, none⟩ (.bool true)) :=
  ⟨(((((h.rs.other (p := ⟨B + 2, 3, none⟩) (by show B + 2 ≠ B + 1; omega) _).set0 f).set1 s).set2 v).set3 true),
    (((((h.bl.setCell (p := ⟨B + 2, 3, none⟩) (by show B + 1 ≤ B + 2; omega) _).setCell (p := ⟨B + 1, 0, none⟩) (Nat.le_refl _) _).setCell (p := ⟨B + 1, 1, none⟩) (Nat.le_refl _) _).setCell (p := ⟨B + 1, 2, none⟩) (Nat.le_refl _) _).setCell (p := ⟨B + 1, 3, none⟩) (Nat.le_refl _) _)⟩
end
section
variable {B : Nat} {w1 w : World} {d : Md} {k0 : Nat} {xp : Prop} {Gb t c f v aq : Nat} {s : Int} {Q : List Ff12}
/-- The top frame goes on. -/
theorem Nx12.on {y : Ff12} (ht : Q.length = t) {z : Fz} (h : Mi12 B w1 w d Gb (t + 1) c (Q.reverse ++ [y]) ((f : Int) + 1) s v) (hs0 : 0 ≤ s) (hs1 : s ≤ (ce12 d k0).2.1) (haq : aq ≤ f + 1)
    (hr : Ru12 d k0 xp z (Q.map (·.z)) (f + 1) v) (hk : z.k = y.z.k) (hl : z.lf = y.z.lf) : Nx12 B w1 (w.setCell ⟨Gb, t * 3 + 1, none⟩ (.int .i64 z.p)) d k0 xp (f + 1) (.slice (some ⟨Gb, 0, none⟩) (t + 1) c) (.int .i64 aq) := by
  have hx : (Q.reverse ++ [y])[t]? = some y := by rw [← ht, ← List.length_reverse]; exact at_last _ _
  have h2 := h.setP (y := ⟨z, y.g⟩) hx rfl hk hl
  have e : (Q.reverse ++ [y]).set t ⟨z, y.g⟩ = Q.reverse ++ [⟨z, y.g⟩] := by rw [← ht, ← List.length_reverse]; exact set_last _ _ _
  rw [e] at h2
  subst ht
  exact ⟨Gb, c, v, aq, s, ⟨z, y.g⟩, Q, rfl, rfl, haq, hr, h2.sf, by simpa using h2.tk, hs0, hs1, h2.rs, h2.bl⟩
/-- The top frame is over, another one waits. -/
theorem Nx12.back {x y : Ff12} {Q' : List Ff12} (ht : Q'.length = t) {z : Fz} (h : Mi12 B w1 w d Gb (t + 2) c ((y :: Q').reverse ++ [x]) ((f : Int) + 1) s v) (hs0 : 0 ≤ s) (hs1 : s ≤ (ce12 d k0).2.1) (haq : aq ≤ f + 1)
    (hr : Ru12 d k0 xp z (Q'.map (·.z)) (f + 1) v) (hk : z.k = y.z.k) (hl : z.lf = y.z.lf) : Nx12 B w1 (w.setCell ⟨Gb, t * 3 + 1, none⟩ (.int .i64 z.p)) d k0 xp (f + 1) (.slice (some ⟨Gb, 0, none⟩) (t + 1) c) (.int .i64 aq) := by
  have h1 := h.pop
  rw [List.reverse_cons] at h1
  exact Nx12.on ht h1 hs0 hs1 haq hr hk hl
/-- A method is called. -/
theorem Nx12.call {x : Ff12} {w' : World} {j g G' c' : Nat} (ht : Q.length = t) (h : Mi12 B w1 w d Gb (t + 1) c (Q.reverse ++ [x]) ((f : Int) + 1) s v) (hs0 : 0 ≤ s) (hs1 : s ≤ (ce12 d k0).2.1) (haq : aq ≤ f + 1)
    (hr : Ru12 d k0 xp (Fz.new j) (x.z :: Q.map (·.z)) (f + 1) v) (hg : g = w.heap.size) {ln : Nat} (hln : (co11 d j).length = ln) (u : Obj)
    (ho : w'.ownsRow (B + 3) 70 3 (.slice (some ⟨G', 0, none⟩) (t + 1 + 1) c') (t + 1 + 1) (clr (f312 d) ((Q.reverse ++ [x]) ++ [⟨Fz.new j, g⟩])))
    (hgr : ((w.alloc (.cells (Array.replicate ln (.int .i64 0)) 3)).alloc u).grownBy w' (some Gb)) (hbl : Below (B + 3) ((w.alloc (.cells (Array.replicate ln (.int .i64 0)) 3)).alloc u) w') :
    Nx12 B w1 w' d k0 xp (f + 1) (.slice (some ⟨G', 0, none⟩) (t + 2) c') (.int .i64 aq) := by
  subst ht hg hln
  have hB : B + 3 ≤ w.heap.size := by have := h.tk.lt; omega
  have b2 : Below w.heap.size w ((w.alloc (.cells (Array.replicate (co11 d j).length (.int .i64 0)) 3)).alloc u) := new1.trans (new1.mono (by simp))
  have h2 := h.keep b2
  have hL : Lq12 ((w.alloc (.cells (Array.replicate (co11 d j).length (.int .i64 0)) 3)).alloc u) w.heap.size (co11 d j).length (fun _ => 0) := (Lq12.new2 w (co11 d j).length).keep new1
  have hne : ∀ z ∈ Q.reverse ++ [x], z.g ≠ w.heap.size := fun z hz e => by
    have := (h.sf.lf z hz).2.lt
    omega
  have hs := h2.sf.push (x := ⟨Fz.new j, w.heap.size⟩) hB hL hne ho hgr
  have ht2 : Tk12 w' (B + 2) ((f : Int) + 1) s v false := (hbl.block _ (by omega)).trans h2.tk
  have hr2 : Tk12 w' (B + 1) 0 0 0 false := (hbl.block _ (by omega)).trans h2.rs
  have e : (Q.reverse ++ [x]) ++ [(⟨Fz.new j, w.heap.size⟩ : Ff12)] = (x :: Q).reverse ++ [⟨Fz.new j, w.heap.size⟩] := by rw [List.reverse_cons]
  rw [e] at hs
  exact ⟨G', c', v, aq, s, ⟨Fz.new j, w.heap.size⟩, x :: Q, rfl, rfl, haq, hr, hs, by simpa using ht2, hs0, hs1, hr2, h2.bl.trans (hbl.mono (by omega))⟩
end
theorem Tryz.infoFr : (Tryz.prog.info? 70).map (fun i => (i.zero, i.size, i.bytes)) = some (some (.agg #[.int .i64 0, .int .i64 0, .slice none 0 0]), 3, 40) := by kernel_rfl
end Go.Proofs.YtmgppdjbmhjmbaaGreat
