/-
  Tr, Th, Tc: in one text.
-/
import Derived.Test.YtplgmdbocmfbcaaLu
import Derived.Test.YtplgmdbocmfbcaaLm
import Derived.Test.YtplgmdbocmfbcaaLta
import Derived.Test.YtplgmdbocmfbcaaLt
namespace Go.Proofs.Ytplgmdbocmfbcaa
open Go.RowKit
set_option maxRecDepth 100000
set_option linter.unusedSimpArgs false
set_option linter.unusedVariables false

set_option maxHeartbeats 4000000 in
theorem row10_v (A : Option Addr) (c n : Nat) (L : List Ins) (w : World) (hr : Rn w A c (two9 L)) (hn : 2 * L.length = n) (hl : n ≤ 1000) (hok : ∀ x ∈ L, InOk x ∧ x.2.2 = 0) :
    Calls Try.prog 34 #[.slice A n c] w fun r w' => ∃ A' c', r = .returned (.slice A' L.length c') ∧ w'.ownsRow w.heap.size 45 3 (.slice A' L.length c') L.length (cei L) ∧ Below w.heap.size w w' := by
  have HR := Lib.hid hr
  have HKK := Lib.hid hok
  have hcap := hr.1
  rw [two9_len] at hcap
  have hmax := hr.2.1
  unfold maxLen at hmax
  clear hr hok
  go_enter Try.func34, Try.ntmps34
  go_wp2_with fail
  go_loopw [3, 4] (fun o i wr => ∃ (j k : Nat) (A' : Option Addr) (c' : Nat), j ≤ L.length ∧ i = .int .i64 k ∧ Hid (k = 2 * j) ∧ o = .slice A' j c' ∧ Hid (wr.ownsRow w.heap.size 45 3 (.slice A' j c') j (cei (L.take j))) ∧ Hid (Below w.heap.size w wr)) (fun _ i _ => n - (intOf i).toNat)
  case atStart => exact ⟨0, 0, none, 0, by omega, rfl, Lib.hid rfl, rfl, Lib.hid (World.ownsRow_nil _ _ _ _), Lib.hid (Below.refl _ _)⟩
  case round =>
    obtain ⟨j, k, A1, c1, hj, rfl, HK, rfl, HO, HB⟩ := hrel
    have hkb : k ≤ 1000 := by have := HK.out; omega
    have hk3 : (0 : Int) ≤ (k : Int) + 1 := by omega
    have hwr : IntKind.i64.wrap ((k : Int) + 1) = ((k + 1 : Nat) : Int) := by
      simp [IntKind.wrap, IntKind.signed, IntKind.bits, go_sem]
      omega
    by_cases h1 : j < L.length
    · obtain ⟨x, hx0⟩ : ∃ x, L[j] = x := ⟨_, rfl⟩
      have hx := Lib.hid hx0
      have HOK : Hid (InOk x) := by have := (HKK.out L[j] (List.getElem_mem h1)).1; rwa [hx0] at this
      have hB0 := (HKK.out L[j] (List.getElem_mem h1)).2
      rw [hx0] at hB0
      have hx0 := hB0
      clear hB0
      obtain ⟨t1, t2⟩ := two9_at (L := L) (i := j) (x := x) (by rw [List.getElem?_eq_getElem h1, hx.out])
      rw [← HK.out] at t1 t2
      have hk1 : k < n := by have := HK.out; omega
      have hk2 : k + 1 < n := by have := HK.out; omega
      obtain ⟨ad, rfl, s0⟩ := HR.out.at_ t1
      have SN : Hid (∀ w', Below w.heap.size w w' → Rn w' (some ad) c (two9 L) ∧ w'.cell? (ad.add k) = some (.int .i64 x.1) ∧ w'.cell? ⟨ad.block, ad.off + (k + 1), none⟩ = some (.int .i64 x.2.1) ∧ True) := Lib.hid fun w' hb => by
        have h := HR.out.keep hb
        obtain ⟨a1, e1, k1⟩ := h.at_ t1
        obtain ⟨a2, e2, k2⟩ := h.at_ t2
        injection e1 with e1
        injection e2 with e2
        subst e1 e2
        rw [add_succ9] at k2
        exact ⟨h, k1, k2, trivial⟩
      have SR : Hid (Below w.heap.size w wr.drew ∧ Rn wr.drew (some ad) c (two9 L) ∧ wr.drew.cell? (ad.add k) = some (.int .i64 x.1) ∧ wr.drew.cell? ⟨ad.block, ad.off + (k + 1), none⟩ = some (.int .i64 x.2.1) ∧ True) := Lib.hid ⟨below_draws HB.out 1, SN.out _ (below_draws HB.out 1)⟩
      have hm : IntKind.u8.wrap x.1 = x.1 := by
        have := HOK.out.1
        simp [IntKind.wrap, IntKind.signed, IntKind.bits, go_sem]
        omega
      clear t1 t2 s0
      go_upto_region 5 with (fail)
      refine wp_region_held_drew (S := fun w' => Hid (Below w.heap.size w w' ∧ Rn w' (some ad) c (two9 L) ∧ w'.cell? (ad.add k) = some (.int .i64 x.1) ∧ w'.cell? ⟨ad.block, ad.off + (k + 1), none⟩ = some (.int .i64 x.2.1) ∧ True)) (by kernel_rfl) (SR) (fun hHeld => ?_)
      refine wpAnyH_take (i := 0) (v := ?_) rfl (by kernel_rfl) (by kernel_rfl) (by kernel_rfl) (fun _ _ _ h => h) (Or.inl ⟨by rfl, ?_⟩) (by assumption) ?_
      rotate_left 1
      · intro w _; go_simp; try with_reducible rfl
      try simp only [Act.put, List.getElem_toArray, List.getElem_cons_zero, List.getElem_cons_succ, List.setIfInBounds_toArray, List.set_cons_zero, List.set_cons_succ]
      refine wpAnyH_take (i := 1) (v := ?_) rfl (by kernel_rfl) (by kernel_rfl) (by kernel_rfl) (fun _ _ _ h => h) (Or.inl ⟨by rfl, ?_⟩) (by assumption) ?_
      rotate_left 1
      · intro w _; go_simp; try with_reducible rfl
      try simp only [Act.put, List.getElem_toArray, List.getElem_cons_zero, List.getElem_cons_succ, List.setIfInBounds_toArray, List.set_cons_zero, List.set_cons_succ]
      refine wpAnyH_take (i := 2) (v := ?_) rfl (by kernel_rfl) (by kernel_rfl) (by kernel_rfl) (fun _ _ _ h => h) (Or.inl ⟨by rfl, ?_⟩) (by assumption) ?_
      rotate_left 1
      · intro w _; go_simp; try with_reducible rfl
      try simp only [Act.put, List.getElem_toArray, List.getElem_cons_zero, List.getElem_cons_succ, List.setIfInBounds_toArray, List.set_cons_zero, List.set_cons_succ]
      refine wpAnyH_take (i := 3) (v := ?_) rfl (by kernel_rfl) (by kernel_rfl) (by kernel_rfl) (fun _ _ _ h => h) (Or.inl ⟨by rfl, ?_⟩) (by assumption) ?_
      rotate_left 1
      · intro w _; go_simp; try with_reducible rfl
      try simp only [Act.put, List.getElem_toArray, List.getElem_cons_zero, List.getElem_cons_succ, List.setIfInBounds_toArray, List.set_cons_zero, List.set_cons_succ]
      refine wpAnyH_take (i := 4) (v := ?_) rfl (by kernel_rfl) (by kernel_rfl) (by kernel_rfl) (fun _ _ _ h => h) (Or.inl ⟨by rfl, ?_⟩) (by assumption) ?_
      rotate_left 1
      · intro w hSw; (try dsimp only at hSw); obtain ⟨-, -, s0, s1, -⟩ := hSw.out; go_simp; try with_reducible rfl
      try simp only [Act.put, List.getElem_toArray, List.getElem_cons_zero, List.getElem_cons_succ, List.setIfInBounds_toArray, List.set_cons_zero, List.set_cons_succ]
      refine wpAnyH_take (i := 5) (v := ?_) rfl (by kernel_rfl) (by kernel_rfl) (by kernel_rfl) (fun _ _ _ h => h) (Or.inl ⟨by rfl, ?_⟩) (by assumption) ?_
      rotate_left 1
      · intro w hSw; (try dsimp only at hSw); obtain ⟨-, -, s0, s1, -⟩ := hSw.out; go_simp; try with_reducible rfl
      try simp only [Act.put, List.getElem_toArray, List.getElem_cons_zero, List.getElem_cons_succ, List.setIfInBounds_toArray, List.set_cons_zero, List.set_cons_succ]
      refine wpAnyH_take (i := 6) (v := ?_) rfl (by kernel_rfl) (by kernel_rfl) (by kernel_rfl) (fun _ _ _ h => h) (Or.inl ⟨by rfl, ?_⟩) (by assumption) ?_
      rotate_left 1
      · intro w _; go_simp; try with_reducible rfl
      try simp only [Act.put, List.getElem_toArray, List.getElem_cons_zero, List.getElem_cons_succ, List.setIfInBounds_toArray, List.set_cons_zero, List.set_cons_succ]
      refine wpAnyH_take (i := 7) (v := ?_) rfl (by kernel_rfl) (by kernel_rfl) (by kernel_rfl) (fun _ _ _ h => h) (Or.inl ⟨by rfl, ?_⟩) (by assumption) ?_
      rotate_left 1
      · intro w _; go_simp; try with_reducible rfl
      try simp only [Act.put, List.getElem_toArray, List.getElem_cons_zero, List.getElem_cons_succ, List.setIfInBounds_toArray, List.set_cons_zero, List.set_cons_succ]
      refine wpAnyH_take (i := 8) (v := ?_) rfl (by kernel_rfl) (by kernel_rfl) (by kernel_rfl) (fun _ _ _ h => h) (Or.inl ⟨by rfl, ?_⟩) (by assumption) ?_
      rotate_left 1
      · intro w _; go_simp; try with_reducible rfl
      try simp only [Act.put, List.getElem_toArray, List.getElem_cons_zero, List.getElem_cons_succ, List.setIfInBounds_toArray, List.set_cons_zero, List.set_cons_succ]
      refine wpAnyH_take (i := 9) (v := ?_) rfl (by kernel_rfl) (by kernel_rfl) (by kernel_rfl) (fun _ _ _ h => h) (Or.inl ⟨by rfl, ?_⟩) (by assumption) ?_
      rotate_left 1
      · intro w _; go_simp; try with_reducible rfl
      try simp only [Act.put, List.getElem_toArray, List.getElem_cons_zero, List.getElem_cons_succ, List.setIfInBounds_toArray, List.set_cons_zero, List.set_cons_succ]
      refine wpAnyH_take (i := 10) (v := ?_) rfl (by kernel_rfl) (by kernel_rfl) (by kernel_rfl) (fun _ _ _ h => h) (Or.inl ⟨by rfl, ?_⟩) (by assumption) ?_
      rotate_left 1
      · intro w hSw; (try dsimp only at hSw); obtain ⟨-, -, s0, s1, -⟩ := hSw.out; go_simp; try with_reducible rfl
      try simp only [Act.put, List.getElem_toArray, List.getElem_cons_zero, List.getElem_cons_succ, List.setIfInBounds_toArray, List.set_cons_zero, List.set_cons_succ]
      refine wpAnyH_take (i := 11) (v := ?_) rfl (by kernel_rfl) (by kernel_rfl) (by kernel_rfl) (fun _ _ _ h => h) (Or.inl ⟨by rfl, ?_⟩) (by assumption) ?_
      rotate_left 1
      · intro w _; go_simp; try with_reducible rfl
      try simp only [Act.put, List.getElem_toArray, List.getElem_cons_zero, List.getElem_cons_succ, List.setIfInBounds_toArray, List.set_cons_zero, List.set_cons_succ]
      refine wpAnyH_ready (rs := [12]) (by kernel_rfl) (by simp) ?_
      refine AllReadyH.cons rfl (fun K hK => ?_) AllReadyH.nil
      go_simp
      have R4 := Lib.hid (Ri.drewN (ri_new wr x HOK.out) 1)
      have O4 := Lib.hid (own_below HO.out (below_draws (new1 (a := .cells #[.int .u8 x.1, .int .i64 x.2.1, .int .i64 0] 45)) 1) (Nat.le_refl _))
      rw [hx0] at R4
      have B4 := Lib.hid (HB.out.trans ((below_draws (new1 (w := wr) (a := .cells #[.int .u8 x.1, .int .i64 x.2.1, .int .i64 0] 45)) 1).mono HB.out.size))
      refine hK.out _ _ (Lib.hid ⟨B4.out, SN.out _ B4.out⟩) (fun hHeld => ?_)
      clear hK K
      try simp only [Act.put, List.getElem_toArray, List.getElem_cons_zero, List.getElem_cons_succ, List.setIfInBounds_toArray, List.set_cons_zero, List.set_cons_succ]
      refine wpAnyH_ready (rs := [13]) (by kernel_rfl) (by simp) ?_
      refine AllReadyH.cons rfl (fun K hK => ?_) AllReadyH.nil
      refine step_append_ri rfl (.tmp 12) (.tmp 24) rfl w.heap.size _ j (L.take j) rfl O4.out _ 1 1 [x] rfl R4.out rfl (by omega) B4.out.size ?_
      intro A9 c9 w9 ho hg hb
      have O9 := Lib.hid ho
      have B9 := Lib.hid (B4.out.trans hb)
      clear ho hg
      refine hK.out _ _ (Lib.hid ⟨B9.out, SN.out _ B9.out⟩) (fun hHeld => ?_)
      clear hK K
      try simp only [Act.put, List.getElem_toArray, List.getElem_cons_zero, List.getElem_cons_succ, List.setIfInBounds_toArray, List.set_cons_zero, List.set_cons_succ]
      refine wpAnyH_take (i := 14) (v := ?_) rfl (by kernel_rfl) (by kernel_rfl) (by kernel_rfl) (fun _ _ _ h => h) (Or.inl ⟨by rfl, ?_⟩) (by assumption) ?_
      rotate_left 1
      · intro w _; go_simp; try with_reducible rfl
      try simp only [Act.put, List.getElem_toArray, List.getElem_cons_zero, List.getElem_cons_succ, List.setIfInBounds_toArray, List.set_cons_zero, List.set_cons_succ]
      refine wpAnyH_done (by kernel_rfl) ?_ _
      clear hHeld
      have HO9 : Hid (w9.ownsRow w.heap.size 45 3 (.slice A9 (j + 1) c9) (j + 1) (cei (L.take (j + 1)))) := by
        have h := O9.out
        rw [Hid, List.take_add_one, List.getElem?_eq_getElem h1, hx.out]
        exact h
      go_wp2_with fail
      go_roundw
      case rel => exact ⟨j + 1, k + 2, A9, c9, by omega, by go_num, Lib.hid (by have := HK.out; omega), rfl, HO9, B9⟩
      case measure => simp [intOf]; omega
    · obtain rfl : j = L.length := by omega
      have hk1 : ¬ k + 1 < n := by have := HK.out; omega
      rw [List.take_of_length_le (Nat.le_refl _)] at HO
      go_wp2_with fail
      go_ret
      exact ⟨A1, c1, rfl, HO.out, HB.out⟩
theorem row10_lit (L : List Ins) (w : World) (n : Nat) (cs : Array Value) (t : Nat) (hcs : cs = ((two9 L).map (Value.int .i64)).toArray) (hn : 2 * L.length = n) (hl : n ≤ 1000) (hok : ∀ x ∈ L, InOk x ∧ x.2.2 = 0) :
    Calls Try.prog 34 #[.slice (some ⟨w.heap.size, 0, none⟩) n n] (w.alloc (.cells cs t)) fun r w' => ∃ A' c', r = .returned (.slice A' L.length c') ∧ Ri w' A' c' L ∧ Below w.heap.size w w' := by
  subst hcs
  have h := Rn.new w (two9 L) t (by rw [two9_len]; unfold maxLen; omega)
  rw [two9_len, hn] at h
  refine (row10_v _ n n L _ h hn hl hok).mono ?_
  rintro r w' ⟨A', c', rfl, ho, hb⟩
  exact ⟨A', c', rfl, (Ri.of_own ho (fun x hx => (hok x hx).1)).1, new1.trans (hb.mono (by rw [size1]; omega))⟩
end Go.Proofs.Ytplgmdbocmfbcaa
namespace Go.Proofs.Ytplgmdbocmfbcaa
open Go.RowKit
set_option maxRecDepth 100000
set_option linter.unusedSimpArgs false
set_option linter.unusedVariables false

/-- The law's one method, its module. -/
def o10 : Mh := ⟨[1], [], 1, false, 0, 0, 0⟩
def m10 (L : List Ins) : Md := ⟨[], [(1, 5, 0)], [(o10, L)], -1⟩
def x10 (g : Nat) (A : Option Addr) (c k : Nat) : Mc := ⟨some ⟨g, 0, none⟩, 1, none, 0, A, k, c⟩
def y10 (p s g : Nat) (A : Option Addr) (c : Nat) (L : List Ins) : Ma := ⟨none, 0, some ⟨p, 0, none⟩, 1, some ⟨s, 0, none⟩, 1, [⟨x10 g A c L.length, o10, L⟩]⟩
def P10 (B : Nat) (w : World) (p : Nat) : Prop := w.ownsRow B 52 3 (.slice (some ⟨p, 0, none⟩) 1 1) 1 (cev [(1, 5, 0)])
def G10 (B : Nat) (w : World) (g : Nat) : Prop := w.ownsRow B 5 1 (.slice (some ⟨g, 0, none⟩) 1 1) 1 (cel [1])
def C10 (B : Nat) (w : World) (A : Option Addr) (c : Nat) (L : List Ins) : Prop := w.ownsRow B 45 3 (.slice A L.length c) L.length (cei L)
def S10 (B : Nat) (w : World) (s g : Nat) (A : Option Addr) (c : Nat) (L : List Ins) : Prop := w.ownsRow B 36 8 (.slice (some ⟨s, 0, none⟩) 1 1) 1 (cem [⟨x10 g A c L.length, o10, L⟩])
section
variable {B : Nat} {w w' : World} {p s g : Nat} {A : Option Addr} {c : Nat} {L : List Ins}
theorem P10.keep (h : P10 B w p) (hb : Below w.heap.size w w') : P10 B w' p := own_below h hb (Nat.le_refl _)
theorem G10.keep (h : G10 B w g) (hb : Below w.heap.size w w') : G10 B w' g := own_below h hb (Nat.le_refl _)
theorem C10.keep (h : C10 B w A c L) (hb : Below w.heap.size w w') : C10 B w' A c L := own_below h hb (Nat.le_refl _)
theorem S10.keep (h : S10 B w s g A c L) (hb : Below w.heap.size w w') : S10 B w' s g A c L := own_below h hb (Nat.le_refl _)
end
/-- The rows read as the module. -/
theorem hq10 {B p s g : Nat} {w : World} {A : Option Addr} {c : Nat} {L : List Ins} (h1 : P10 B w p) (h2 : S10 B w s g A c L) (h3 : G10 B w g) (h4 : C10 B w A c L) (hok : ∀ x ∈ L, InOk x) : Hq w (y10 p s g A c L) (m10 L) := by
  refine ⟨Rv.none_ w, (Rv.of_own h1 (fun x hx => by rw [List.mem_singleton.1 hx]; unfold VlOk; decide)).1, (Rm.of_own h2 (fun z hz => ?_)).1, rfl, by unfold m10; dsimp only; decide⟩
  rw [List.mem_singleton.1 hz]
  exact ⟨⟨own_rd h3 (fun x hx => by rw [List.mem_singleton.1 hx]; decide), Rd.none_ w, by unfold Mh.nums o10; dsimp only; decide⟩, (Ri.of_own h4 hok).1, rfl⟩
def I10 (w0 : World) (A : Option Addr) (c : Nat) (L : List Ins) (w : World) : Prop := Below w0.heap.size w0 w ∧ Bk w w0.heap.size 25 4 ∧ Mf w w0.heap.size ∧ Db w w0.heap.size Ma.zero Md.zero ∧ Rn w A c (two9 L)
theorem I10.call {w0 w w' : World} {A : Option Addr} {c : Nat} {L : List Ins} (h : I10 w0 A c L w) (hb : Below w.heap.size w w') : I10 w0 A c L w' := ⟨below_on h.1 hb, h.2.1.keep hb, h.2.2.1.keep hb, h.2.2.2.1.keep hb, h.2.2.2.2.keep hb⟩
theorem put4_own {w : World} {B base e k n : Nat} {v : Value} {xs : List Value} (h : w.ownsRow base e k v n xs) (hB : Bk w B 25 4) (hne : e ≠ 25) (y : Ma) (d : Md) : (put4 w B y d).ownsRow base e k v n xs :=
  own_tag (own_tag (own_tag (own_tag h hB hne _ _) (hB.set _ _ _) hne _ _) ((hB.set _ _ _).set _ _ _) hne _ _) (((hB.set _ _ _).set _ _ _).set _ _ _) hne _ _
theorem one10_end (tm : Array Value) (w' : World) (T : Nat) (y : Ma) (d : Md) (hT : tm[2]?.getD undef = .pointer (some ⟨T, 0, none⟩)) (hM : Db w' T y d) (R : Ending → World → Prop)
    (hR : R (.returned (dv y d)) w') : bodyPost Try.prog Try.f18 R .ret { tmps := tm, defers := [] } w' := by
  obtain ⟨h0, c1, c2, c3, c4⟩ := hM
  exact bodyPost_ret (v := dv y d) (by simp [results, Try.results18, go_sem, hT, c1, c2, c3, c4]) rfl hR
set_option maxHeartbeats 4000000 in
theorem one10_v (A : Option Addr) (c n : Nat) (L : List Ins) (w : World) (hr : Rn w A c (two9 L)) (hn : 2 * L.length = n) (hl : n ≤ 1000) (hok : ∀ x ∈ L, InOk x ∧ x.2.2 = 0) :
    Calls Try.prog 18 #[.slice A n c] w fun r w' => ∃ y, r = .returned (dv y (m10 L)) ∧ Hq w' y (m10 L) ∧ Below w.heap.size w w' := by
  have HOK := Lib.hid hok
  have HI1 : Hid (I10 w A c L (w.alloc (dcel Ma.zero Md.zero))) := Lib.hid ⟨new1, Bk.new w _ _, Mf.new w _ _, Db.new w _ _, hr.keep new1⟩
  have HI2 : Hid (I10 w A c L ((w.alloc (dcel Ma.zero Md.zero)).alloc (.cells #[.int .u8 1, .int .i64 5, .int .i64 0] 52))) := Lib.hid (HI1.out.call new1)
  have HI : Hid (I10 w A c L (((w.alloc (dcel Ma.zero Md.zero)).alloc (.cells #[.int .u8 1, .int .i64 5, .int .i64 0] 52)).alloc (.cells #[.int .u8 1] 5))) := Lib.hid (HI2.out.call new1)
  have HP2 : Hid (P10 w.heap.size ((w.alloc (dcel Ma.zero Md.zero)).alloc (.cells #[.int .u8 1, .int .i64 5, .int .i64 0] 52)) (w.heap.size + 1)) := Lib.hid (by
    have h := World.ownsRow_lit (base := w.heap.size) (size := 3) (e := 52) (w.alloc (dcel Ma.zero Md.zero)) #[.int .u8 1, .int .i64 5, .int .i64 0] 1 HI1.out.1.size (by unfold maxLen; omega) rfl
    rw [size1] at h
    exact h)
  have HP : Hid (P10 w.heap.size (((w.alloc (dcel Ma.zero Md.zero)).alloc (.cells #[.int .u8 1, .int .i64 5, .int .i64 0] 52)).alloc (.cells #[.int .u8 1] 5)) (w.heap.size + 1)) := Lib.hid (HP2.out.keep new1)
  have HG : Hid (G10 w.heap.size (((w.alloc (dcel Ma.zero Md.zero)).alloc (.cells #[.int .u8 1, .int .i64 5, .int .i64 0] 52)).alloc (.cells #[.int .u8 1] 5)) (w.heap.size + 1 + 1)) := Lib.hid (by
    have h := World.ownsRow_lit (base := w.heap.size) (size := 1) (e := 5) ((w.alloc (dcel Ma.zero Md.zero)).alloc (.cells #[.int .u8 1, .int .i64 5, .int .i64 0] 52)) #[.int .u8 1] 1 HI2.out.1.size (by unfold maxLen; omega) rfl
    rw [size1, size1] at h
    exact h)
  clear hr HI1 HI2 HP2
  go_enter Try.func18, Try.ntmps18
  go_upto_region 1 with (fail)
  go_wp2_with fail
  have HI := Lib.hid HI.out
  generalize hw3 : ((w.alloc (dcel Ma.zero Md.zero)).alloc (.cells #[.int .u8 1, .int .i64 5, .int .i64 0] 52)).alloc (.cells #[.int .u8 1] 5) = w3 at HI HP HG
  have e3 : ((w.alloc (.cells #[.slice none 0 0, .slice none 0 0, .slice none 0 0, .int .i64 0] 25)).alloc (.cells #[.int .u8 1, .int .i64 5, .int .i64 0] 52)).alloc (.cells #[.int .u8 1] 5) = w3 := hw3
  rw [e3]
  clear e3 hw3
  refine (row10_v A c n L w3 HI.out.2.2.2.2 hn hl HOK.out).mono ?_
  rintro e w4 ⟨A', c', rfl, ho, hb⟩
  have HI4 := Lib.hid (HI.out.call hb)
  have HP4 := Lib.hid (HP.out.keep hb)
  have HG4 := Lib.hid (HG.out.keep hb)
  have HC4 : Hid (C10 w.heap.size w4 A' c' L) := Lib.hid (own_base ho HI.out.1.size)
  clear ho hb HI HP HG
  obtain ⟨g, hg⟩ : ∃ g, w.heap.size + 1 + 1 = g := ⟨_, rfl⟩
  obtain ⟨p, hp⟩ : ∃ p, w.heap.size + 1 = p := ⟨_, rfl⟩
  rw [hg] at HG4
  rw [hp] at HP4
  have HX : Hid (I10 w A c L (w4.alloc (.cells #[.slice (some ⟨g, 0, none⟩) 1 1, .slice none 0 0, .int .u8 1, .bool false, .int .i64 0, .int .i64 0, .int .i64 0, .slice A' L.length c'] 36))) := Lib.hid (HI4.out.call new1)
  have HS : Hid (S10 w.heap.size (w4.alloc (.cells #[.slice (some ⟨g, 0, none⟩) 1 1, .slice none 0 0, .int .u8 1, .bool false, .int .i64 0, .int .i64 0, .int .i64 0, .slice A' L.length c'] 36)) w4.heap.size g A' c' L) := Lib.hid (World.ownsRow_lit (base := w.heap.size) (size := 8) (e := 36) w4 #[.slice (some ⟨g, 0, none⟩) 1 1, .slice none 0 0, .int .u8 1, .bool false, .int .i64 0, .int .i64 0, .int .i64 0, .slice A' L.length c'] 1 HI4.out.1.size (by unfold maxLen; omega) rfl)
  have HP5 := Lib.hid (HP4.out.keep (new1 (a := (.cells #[.slice (some ⟨g, 0, none⟩) 1 1, .slice none 0 0, .int .u8 1, .bool false, .int .i64 0, .int .i64 0, .int .i64 0, .slice A' L.length c'] 36))))
  have HG5 := Lib.hid (HG4.out.keep (new1 (a := (.cells #[.slice (some ⟨g, 0, none⟩) 1 1, .slice none 0 0, .int .u8 1, .bool false, .int .i64 0, .int .i64 0, .int .i64 0, .slice A' L.length c'] 36))))
  have HC5 := Lib.hid (HC4.out.keep (new1 (a := (.cells #[.slice (some ⟨g, 0, none⟩) 1 1, .slice none 0 0, .int .u8 1, .bool false, .int .i64 0, .int .i64 0, .int .i64 0, .slice A' L.length c'] 36))))
  rw [hg, hp]
  obtain ⟨hx1, hx2, hx3, hx4, -⟩ := HX.out
  have HALL := Lib.hid (And.intro HP5.out (And.intro HS.out (And.intro HG5.out HC5.out)))
  obtain ⟨B, hB⟩ : ∃ B, w.heap.size = B := ⟨_, rfl⟩
  rw [hB] at hx1 hx2 hx3 hx4 HALL
  have HX := Lib.hid (And.intro hx1 (And.intro hx2 (And.intro hx3 hx4)))
  clear HI4 HP4 HG4 HC4 hg hp HP5 HS HG5 HC5 hx1 hx2 hx3 hx4
  rw [hB]
  obtain ⟨w5, hw5⟩ : ∃ w5, w4.alloc (.cells #[.slice (some ⟨g, 0, none⟩) 1 1, .slice none 0 0, .int .u8 1, .bool false, .int .i64 0, .int .i64 0, .int .i64 0, .slice A' L.length c'] 36) = w5 := ⟨_, rfl⟩
  rw [hw5] at HX HALL
  have fz := HX.out.2.2.1.2
  obtain ⟨f0, f1, f2, f3⟩ : _ ∧ _ ∧ _ ∧ _ := ⟨fz 0, fz 1, fz 2, fz 3⟩
  obtain ⟨b0, b1, b2, b3, b4⟩ := HX.out.2.2.2
  clear fz
  go_wp2_with (rw [hw5])
  obtain ⟨q1, q2, q3, q4⟩ := HALL.out
  obtain ⟨x1, x2, x3, x4⟩ := HX.out
  have HQ := hq10 (put4_own q1 x2 (by decide) (y10 p w4.heap.size g A' c' L) (m10 L)) (put4_own q2 x2 (by decide) (y10 p w4.heap.size g A' c' L) (m10 L)) (put4_own q3 x2 (by decide) (y10 p w4.heap.size g A' c' L) (m10 L)) (put4_own q4 x2 (by decide) (y10 p w4.heap.size g A' c' L) (m10 L)) (fun x hx => (HOK.out x hx).1)
  exact one10_end _ (put4 w5 B (y10 p w4.heap.size g A' c' L) (m10 L)) B (y10 p w4.heap.size g A' c' L) (m10 L) rfl (put4_db x4 _ _) _ ⟨_, rfl, HQ, by rw [hB]; exact put4_below x1 (Nat.le_refl _) _ _⟩
end Go.Proofs.Ytplgmdbocmfbcaa
namespace Go.Proofs.Ytplgmdbocmfbcaa
open Go.RowKit
set_option maxRecDepth 100000
set_option linter.unusedSimpArgs false
set_option linter.unusedVariables false

/-- Rows of the caller's own: each row's kinds in a block of its own, that may be written over. -/
def Ro10 (lo : Nat) (w : World) (A : Option Addr) (c : Nat) (Z : List Rx) : Prop := Rw w A c Z ∧ (∀ z ∈ Z, Rs w lo w.heap.size 5 1 z.A z.K.length) ∧
  ∀ (i j : Nat) (x z : Rx) (a b : Addr), i ≠ j → Z[i]? = some x → Z[j]? = some z → 0 < x.K.length → 0 < z.K.length → x.A = some a → z.A = some b → a.block ≠ b.block
def KTRows (F : Fct) : Prop := ∀ (y : Ma) (d : Md) (k : Int) (w : World), F.p w → Hq w y d → qG d = false → Calls Try.prog 9 #[dv y d, .int .i64 k] w fun e w' => ∃ A c Z, e = .returned (.tuple #[.slice A Z.length c, .int .i64 (rw10s d k).2]) ∧
  Z.map rz = (rw10s d k).1 ∧ Rw w' A c Z ∧ Below w.heap.size w w'
def KTCheck (F : Fct) : Prop := ∀ (y : Ma) (d : Md) (k : Int) (w : World), F.p w → Hq w y d → qG d = false → Calls Try.prog 16 #[dv y d, .int .i64 k] w fun e w' => e = .returned (.int .i64 (rw10s d k).2) ∧ Below w.heap.size w w'
def KTHeight (F : Fct) : Prop := ∀ (A : Option Addr) (c n : Nat) (Z : List Rx) (w : World), F.p w → Rw w A c Z → Z.length = n → n ≤ 300 → (∀ z ∈ Z, z.K.length ≤ 1000000) → Calls Try.prog 12 #[.slice A n c] w fun e w' => e = .returned (.int .i64 (hg10 (Z.map rz))) ∧ Below w.heap.size w w'
theorem one10_lit (L : List Ins) (w : World) (n : Nat) (cs : Array Value) (t : Nat) (hcs : cs = ((two9 L).map (Value.int .i64)).toArray) (hn : 2 * L.length = n) (hl : n ≤ 1000) (hok : ∀ x ∈ L, InOk x ∧ x.2.2 = 0) :
    Calls Try.prog 18 #[.slice (some ⟨w.heap.size, 0, none⟩) n n] (w.alloc (.cells cs t)) fun r w' => ∃ y, r = .returned (dv y (m10 L)) ∧ Hq w' y (m10 L) ∧ Below w.heap.size w w' := by
  subst hcs
  have h := Rn.new w (two9 L) t (by rw [two9_len]; unfold maxLen; omega)
  rw [two9_len, hn] at h
  refine (one10_v _ n n L _ h hn hl hok).mono ?_
  rintro r w' ⟨y, rfl, hq, hb⟩
  exact ⟨y, rfl, hq, new1.trans (hb.mono (by rw [size1]; omega))⟩
def ex10 : List Ins := [(2, 0, 0), (1, 0, 0), (9, 0, 0), (31, 0, 0)]
theorem four10 {Z : List Rx} {a b c d : Rz} (h : Z.map rz = [a, b, c, d]) : ∃ x0 x1 x2 x3, Z = [x0, x1, x2, x3] ∧ rz x0 = a ∧ rz x1 = b ∧ rz x2 = c ∧ rz x3 = d := by
  match Z, h with
  | [x0, x1, x2, x3], h =>
    simp only [List.map_cons, List.map_nil, List.cons.injEq, and_true] at h
    exact ⟨x0, x1, x2, x3, rfl, h.1, h.2.1, h.2.2.1, h.2.2.2⟩
set_option maxHeartbeats 8000000 in
theorem awake10_any {F : Fct} (KR : KTRows F) (KC : KTCheck F) (KH : KTHeight F) (w : World) (hF : F.p w) : Calls Try.prog 7 #[] w fun r w' => r = .returned (.bool true) ∧ Below w.heap.size w w' := by
  have B1 : Hid (rw10s (m10 ex10) 0 = ([(true, []), (true, [1]), (true, [1, 1]), (true, [1])], 0)) := by unfold Hid; decide
  have E1 : Hid ((rw10s (m10 [(2, 0, 0), (31, 0, 0), (1, 9, 0), (31, 0, 0)]) 0).2 = 100) := by unfold Hid; decide
  have E2 : Hid ((rw10s (m10 [(9, 0, 0), (31, 0, 0)]) 0).2 = 101) := by unfold Hid; decide
  have E3 : Hid ((rw10s (m10 [(2, 0, 0), (27, 3, 0), (1, 0, 0), (31, 0, 0)]) 0).2 = 100) := by unfold Hid; decide
  have E4 : Hid ((rw10s (m10 [(31, 0, 0)]) 1).2 = 2) := by unfold Hid; decide
  go_enter Try.func7, Try.ntmps7
  go_wp2_with fail
  refine (one10_lit ex10 _ 8 _ _ rfl rfl (by omega) (by unfold ex10 InOk; decide)).mono ?_
  rintro r w1 ⟨y1, rfl, hq, hb⟩
  have S1 := Lib.hid ((((Sx.start w).add F hF).call hb).add (fQm y1 (m10 ex10)) hq)
  clear hq hb hF
  go_wp2_with fail
  have PR := Lib.hid (KR y1 (m10 ex10) 0 _ S1.out.2.2.1 S1.out.2.1 (by decide))
  rw [B1.out] at PR
  refine PR.out.mono ?_
  rintro r w2 ⟨A2, c2, Z, rfl, hz, ho, hb⟩
  obtain ⟨x0, x1, x2, x3, rfl, h0, h1, h2, h3⟩ := four10 hz
  have S2 := Lib.hid ((S1.out.call hb).add (fRw A2 c2 [x0, x1, x2, x3]) ho)
  obtain ⟨r0, a0, d0, K0⟩ := x0
  obtain ⟨r1, a1, d1, K1⟩ := x1
  obtain ⟨r2, a2, d2, K2⟩ := x2
  obtain ⟨r3, a3, d3, K3⟩ := x3
  injection h0 with h00 h01
  injection h1 with h10 h11
  injection h2 with h20 h21
  injection h3 with h30 h31
  subst h00 h01 h10 h11 h20 h21 h30 h31
  have PH := Lib.hid (KH A2 c2 4 _ w2 S2.out.2.2.2.1 S2.out.2.1 rfl (by omega) (by simp))
  clear PR S1 hz ho hb
  obtain ⟨-, -, -, hv⟩ := S2.out.2.1
  rcases hv with ⟨hv, hv2⟩ | ⟨ad, hv, hc⟩
  · have := S2.out.2.1.2.1
    simp at this
    omega
  subst hv
  have p0 := hc 0 _ rfl
  have p1 := hc 1 _ rfl
  have p2 := hc 2 _ rfl
  have p3 := hc 3 _ rfl
  clear hc
  simp [go_sem, At2] at p0 p1 p2 p3
  obtain ⟨p00, p01⟩ := p0
  obtain ⟨p10, p11⟩ := p1
  obtain ⟨p20, p21⟩ := p2
  obtain ⟨p30, p31⟩ := p3
  go_wp2_with fail
  refine PH.out.mono ?_
  rintro r w3 ⟨rfl, hb⟩
  have e2 : (hg10 ([⟨true, a0, d0, []⟩, ⟨true, a1, d1, [1]⟩, ⟨true, a2, d2, [1, 1]⟩, ⟨true, a3, d3, [1]⟩].map rz) : Int) = 2 := rfl
  have S3 : Hid (Sx w w3 [F]) := Lib.hid ⟨(S2.out.call hb).1, (S2.out.call hb).2.2.2.1, trivial⟩
  dsimp only [rz] at *
  rw [e2]
  clear e2 hb PH S2 p00 p01 p10 p11 p20 p21 p30 p31
  go_wp2_with fail
  refine (one10_lit [(2, 0, 0), (31, 0, 0), (1, 9, 0), (31, 0, 0)] _ 8 _ _ rfl rfl (by omega) (by unfold InOk; decide)).mono ?_
  rintro r u4 ⟨y4, rfl, hq, hb⟩
  have T4 := Lib.hid ((S3.out.call hb).add (fQm y4 (m10 [(2, 0, 0), (31, 0, 0), (1, 9, 0), (31, 0, 0)])) hq)
  clear hq hb S3
  go_wp2_with fail
  refine (KC y4 (m10 [(2, 0, 0), (31, 0, 0), (1, 9, 0), (31, 0, 0)]) 0 _ T4.out.2.2.1 T4.out.2.1 (by decide)).mono ?_
  rintro r v4 ⟨rfl, hb⟩
  rw [E1.out]
  have U4 : Hid (Sx w v4 [F]) := Lib.hid ⟨(T4.out.call hb).1, (T4.out.call hb).2.2.1, trivial⟩
  clear hb T4
  go_wp2_with fail
  refine (one10_lit [(9, 0, 0), (31, 0, 0)] _ 4 _ _ rfl rfl (by omega) (by unfold InOk; decide)).mono ?_
  rintro r u5 ⟨y5, rfl, hq, hb⟩
  have T5 := Lib.hid ((U4.out.call hb).add (fQm y5 (m10 [(9, 0, 0), (31, 0, 0)])) hq)
  clear hq hb U4
  go_wp2_with fail
  refine (KC y5 (m10 [(9, 0, 0), (31, 0, 0)]) 0 _ T5.out.2.2.1 T5.out.2.1 (by decide)).mono ?_
  rintro r v5 ⟨rfl, hb⟩
  rw [E2.out]
  have U5 : Hid (Sx w v5 [F]) := Lib.hid ⟨(T5.out.call hb).1, (T5.out.call hb).2.2.1, trivial⟩
  clear hb T5
  go_wp2_with fail
  refine (one10_lit [(2, 0, 0), (27, 3, 0), (1, 0, 0), (31, 0, 0)] _ 8 _ _ rfl rfl (by omega) (by unfold InOk; decide)).mono ?_
  rintro r u6 ⟨y6, rfl, hq, hb⟩
  have T6 := Lib.hid ((U5.out.call hb).add (fQm y6 (m10 [(2, 0, 0), (27, 3, 0), (1, 0, 0), (31, 0, 0)])) hq)
  clear hq hb U5
  go_wp2_with fail
  refine (KC y6 (m10 [(2, 0, 0), (27, 3, 0), (1, 0, 0), (31, 0, 0)]) 0 _ T6.out.2.2.1 T6.out.2.1 (by decide)).mono ?_
  rintro r v6 ⟨rfl, hb⟩
  rw [E3.out]
  have U6 : Hid (Sx w v6 [F]) := Lib.hid ⟨(T6.out.call hb).1, (T6.out.call hb).2.2.1, trivial⟩
  clear hb T6
  go_wp2_with fail
  refine (one10_lit [(31, 0, 0)] _ 2 _ _ rfl rfl (by omega) (by unfold InOk; decide)).mono ?_
  rintro r u7 ⟨y7, rfl, hq, hb⟩
  have T7 := Lib.hid ((U6.out.call hb).add (fQm y7 (m10 [(31, 0, 0)])) hq)
  clear hq hb U6
  go_wp2_with fail
  refine (KC y7 (m10 [(31, 0, 0)]) 1 _ T7.out.2.2.1 T7.out.2.1 (by decide)).mono ?_
  rintro r v7 ⟨rfl, hb⟩
  rw [E4.out]
  have U7 : Hid (Sx w v7 [F]) := Lib.hid ⟨(T7.out.call hb).1, (T7.out.call hb).2.2.1, trivial⟩
  clear hb T7
  go_wp2_with fail
  go_ret
  exact ⟨rfl, U7.out.1⟩
end Go.Proofs.Ytplgmdbocmfbcaa
