/-
  Rows of integers that read as a list; the law's row: instructions by operations and what stands behind them.
-/
import Derived.Test.YtfchdggefedgoaaRj
namespace Go.Proofs.Ytfchdggefedgoaa
open Go.RowKit
set_option maxRecDepth 100000
set_option linter.unusedSimpArgs false
set_option linter.unusedVariables false

/-- The slice at A, of capacity c, reads as the integers L. -/
def Rn (w : World) (A : Option Addr) (c : Nat) (L : List Int) : Prop := L.length ≤ c ∧ c ≤ maxLen ∧ ((A = none ∧ c = 0) ∨ ∃ ad : Addr, A = some ad ∧ ∀ i x, L[i]? = some x → w.cell? (ad.add i) = some (.int .i64 x))
section
variable {w w' : World} {A : Option Addr} {c : Nat} {L : List Int}
theorem Rn.keep (h : Rn w A c L) (hb : Below w.heap.size w w') : Rn w' A c L := by
  refine ⟨h.1, h.2.1, ?_⟩
  rcases h.2.2 with hn | ⟨ad, ha, hc⟩
  · exact .inl hn
  · exact .inr ⟨ad, ha, fun i x hx => (hb.cell (cell_lt (hc i x hx))).trans (hc i x hx)⟩
theorem Rn.at_ (h : Rn w A c L) {i : Nat} {x : Int} (hi : L[i]? = some x) : ∃ ad : Addr, A = some ad ∧ w.cell? (ad.add i) = some (.int .i64 x) := by
  rcases h.2.2 with ⟨_, hc⟩ | ⟨ad, ha, hc⟩
  · have := h.1
    have := (List.getElem?_eq_some_iff.1 hi).1
    omega
  · exact ⟨ad, ha, hc i x hi⟩
theorem Rn.new (w : World) (L : List Int) (t : Nat) (h : L.length ≤ maxLen) : Rn (w.alloc (.cells (L.map (Value.int .i64)).toArray t)) (some ⟨w.heap.size, 0, none⟩) L.length L := by
  refine ⟨Nat.le_refl _, h, .inr ⟨_, rfl, fun i x hx => ?_⟩⟩
  have e : (⟨w.heap.size, 0, none⟩ : Addr).add i = ⟨w.heap.size, i, none⟩ := by
    unfold Addr.add
    split
    · rename_i h0; simp [h0]
    · simp
  rw [e]
  simp [go_sem, hx]
end
abbrev fRn (A : Option Addr) (c : Nat) (L : List Int) : Fct := ⟨fun w => Rn w A c L, fun _ _ h hb => h.keep hb⟩
theorem add_succ9 (ad : Addr) (k : Nat) : ad.add (k + 1) = ⟨ad.block, ad.off + (k + 1), none⟩ := by
  unfold Addr.add
  rw [if_neg (by omega)]
/-- Operations and what stands behind them, one after the other. -/
def two9 (L : List Ins) : List Int := L.flatMap fun x => [x.1, x.2.1]
theorem two9_len (L : List Ins) : (two9 L).length = 2 * L.length := by
  induction L with
  | nil => rfl
  | cons x L ih => rw [two9, List.flatMap_cons, List.length_append, ← two9, ih]; simp; omega
theorem two9_at : ∀ {L : List Ins} {i : Nat} {x : Ins}, L[i]? = some x → (two9 L)[2 * i]? = some x.1 ∧ (two9 L)[2 * i + 1]? = some x.2.1
  | y :: L, 0, x, h => by
    simp at h
    subst h
    exact ⟨rfl, rfl⟩
  | y :: L, i + 1, x, h => by
    obtain ⟨h1, h2⟩ := two9_at (L := L) (i := i) (by simpa using h)
    have e : two9 (y :: L) = y.1 :: y.2.1 :: two9 L := rfl
    rw [e, show 2 * (i + 1) = 2 * i + 1 + 1 by omega]
    simp only [List.getElem?_cons_succ]
    exact ⟨h1, h2⟩
set_option maxHeartbeats 4000000 in
theorem row9_v (A : Option Addr) (c n : Nat) (L : List Ins) (w : World) (hr : Rn w A c (two9 L)) (hn : 2 * L.length = n) (hl : n ≤ 1000) (hok : ∀ x ∈ L, InOk x ∧ x.2.2 = 0) :
    Calls Try.prog 32 #[.slice A n c] w fun r w' => ∃ A' c', r = .returned (.slice A' L.length c') ∧ w'.ownsRow w.heap.size 52 3 (.slice A' L.length c') L.length (cei L) ∧ Below w.heap.size w w' := by
  have HR := Lib.hid hr
  have HKK := Lib.hid hok
  have hcap := hr.1
  rw [two9_len] at hcap
  have hmax := hr.2.1
  unfold maxLen at hmax
  clear hr hok
  go_enter Try.func32, Try.ntmps32
  go_wp2_with fail
  go_loopw [3, 4] (fun o i wr => ∃ (j k : Nat) (A' : Option Addr) (c' : Nat), j ≤ L.length ∧ i = .int .i64 k ∧ Hid (k = 2 * j) ∧ o = .slice A' j c' ∧ Hid (wr.ownsRow w.heap.size 52 3 (.slice A' j c') j (cei (L.take j))) ∧ Hid (Below w.heap.size w wr)) (fun _ i _ => n - (intOf i).toNat)
  case atStart => exact ⟨0, 0, none, 0, by omega, rfl, Lib.hid rfl, rfl, Lib.hid (World.ownsRow_nil _ _ _ _), Lib.hid (Below.refl _ _)⟩
  case round =>
    obtain ⟨j, k, A1, c1, hj, rfl, HK, rfl, HO, HB⟩ := hrel
    have hkb : k ≤ 1000 := by have := HK.out; omega
    have hk3 : (0 : Int) ≤ (k : Int) + 1 := by omega
    have hwr : IntKind.i64.wrap ((k : Int) + 1) = ((k + 1 : Nat) : Int) := by
      simp [IntKind.wrap, IntKind.signed, IntKind.bits, go_sem]
      omega
    by_cases h1 : j < L.length
    · obtain ⟨x, hx0⟩ : ∃ x, L[j] = x := ⟨_, rfl⟩
      have hx := Lib.hid hx0
      have HOK : Hid (InOk x) := by have := (HKK.out L[j] (List.getElem_mem h1)).1; rwa [hx0] at this
      have hB0 := (HKK.out L[j] (List.getElem_mem h1)).2
      rw [hx0] at hB0
      have hx0 := hB0
      clear hB0
      obtain ⟨t1, t2⟩ := two9_at (L := L) (i := j) (x := x) (by rw [List.getElem?_eq_getElem h1, hx.out])
      rw [← HK.out] at t1 t2
      have hk1 : k < n := by have := HK.out; omega
      have hk2 : k + 1 < n := by have := HK.out; omega
      obtain ⟨ad, rfl, s0⟩ := HR.out.at_ t1
      have SN : Hid (∀ w', Below w.heap.size w w' → Rn w' (some ad) c (two9 L) ∧ w'.cell? (ad.add k) = some (.int .i64 x.1) ∧ w'.cell? ⟨ad.block, ad.off + (k + 1), none⟩ = some (.int .i64 x.2.1) ∧ True) := Lib.hid fun w' hb => by
        have h := HR.out.keep hb
        obtain ⟨a1, e1, k1⟩ := h.at_ t1
        obtain ⟨a2, e2, k2⟩ := h.at_ t2
        injection e1 with e1
        injection e2 with e2
        subst e1 e2
        rw [add_succ9] at k2
        exact ⟨h, k1, k2, trivial⟩
      have SR : Hid (Below w.heap.size w wr.drew ∧ Rn wr.drew (some ad) c (two9 L) ∧ wr.drew.cell? (ad.add k) = some (.int .i64 x.1) ∧ wr.drew.cell? ⟨ad.block, ad.off + (k + 1), none⟩ = some (.int .i64 x.2.1) ∧ True) := Lib.hid ⟨below_draws HB.out 1, SN.out _ (below_draws HB.out 1)⟩
      have hm : IntKind.u8.wrap x.1 = x.1 := by
        have := HOK.out.1
        simp [IntKind.wrap, IntKind.signed, IntKind.bits, go_sem]
        omega
      clear t1 t2 s0
      go_upto_region 5 with (fail)
      refine wp_region_held_drew (S := fun w' => Hid (Below w.heap.size w w' ∧ Rn w' (some ad) c (two9 L) ∧ w'.cell? (ad.add k) = some (.int .i64 x.1) ∧ w'.cell? ⟨ad.block, ad.off + (k + 1), none⟩ = some (.int .i64 x.2.1) ∧ True)) (by kernel_rfl) (SR) (fun hHeld => ?_)
      refine wpAnyH_take (i := 0) (v := ?_) rfl (by kernel_rfl) (by kernel_rfl) (by kernel_rfl) (fun _ _ _ h => h) (Or.inl ⟨by rfl, ?_⟩) (by assumption) ?_
      rotate_left 1
      · intro w _; go_simp; try with_reducible rfl
      try simp only [Act.put, List.getElem_toArray, List.getElem_cons_zero, List.getElem_cons_succ, List.setIfInBounds_toArray, List.set_cons_zero, List.set_cons_succ]
      refine wpAnyH_take (i := 1) (v := ?_) rfl (by kernel_rfl) (by kernel_rfl) (by kernel_rfl) (fun _ _ _ h => h) (Or.inl ⟨by rfl, ?_⟩) (by assumption) ?_
      rotate_left 1
      · intro w _; go_simp; try with_reducible rfl
      try simp only [Act.put, List.getElem_toArray, List.getElem_cons_zero, List.getElem_cons_succ, List.setIfInBounds_toArray, List.set_cons_zero, List.set_cons_succ]
      refine wpAnyH_take (i := 2) (v := ?_) rfl (by kernel_rfl) (by kernel_rfl) (by kernel_rfl) (fun _ _ _ h => h) (Or.inl ⟨by rfl, ?_⟩) (by assumption) ?_
      rotate_left 1
      · intro w _; go_simp; try with_reducible rfl
      try simp only [Act.put, List.getElem_toArray, List.getElem_cons_zero, List.getElem_cons_succ, List.setIfInBounds_toArray, List.set_cons_zero, List.set_cons_succ]
      refine wpAnyH_take (i := 3) (v := ?_) rfl (by kernel_rfl) (by kernel_rfl) (by kernel_rfl) (fun _ _ _ h => h) (Or.inl ⟨by rfl, ?_⟩) (by assumption) ?_
      rotate_left 1
      · intro w _; go_simp; try with_reducible rfl
      try simp only [Act.put, List.getElem_toArray, List.getElem_cons_zero, List.getElem_cons_succ, List.setIfInBounds_toArray, List.set_cons_zero, List.set_cons_succ]
      refine wpAnyH_take (i := 4) (v := ?_) rfl (by kernel_rfl) (by kernel_rfl) (by kernel_rfl) (fun _ _ _ h => h) (Or.inl ⟨by rfl, ?_⟩) (by assumption) ?_
      rotate_left 1
      · intro w hSw; (try dsimp only at hSw); obtain ⟨-, -, s0, s1, -⟩ := hSw.out; go_simp; try with_reducible rfl
      try simp only [Act.put, List.getElem_toArray, List.getElem_cons_zero, List.getElem_cons_succ, List.setIfInBounds_toArray, List.set_cons_zero, List.set_cons_succ]
      refine wpAnyH_take (i := 5) (v := ?_) rfl (by kernel_rfl) (by kernel_rfl) (by kernel_rfl) (fun _ _ _ h => h) (Or.inl ⟨by rfl, ?_⟩) (by assumption) ?_
      rotate_left 1
      · intro w hSw; (try dsimp only at hSw); obtain ⟨-, -, s0, s1, -⟩ := hSw.out; go_simp; try with_reducible rfl
      try simp only [Act.put, List.getElem_toArray, List.getElem_cons_zero, List.getElem_cons_succ, List.setIfInBounds_toArray, List.set_cons_zero, List.set_cons_succ]
      refine wpAnyH_take (i := 6) (v := ?_) rfl (by kernel_rfl) (by kernel_rfl) (by kernel_rfl) (fun _ _ _ h => h) (Or.inl ⟨by rfl, ?_⟩) (by assumption) ?_
      rotate_left 1
      · intro w _; go_simp; try with_reducible rfl
      try simp only [Act.put, List.getElem_toArray, List.getElem_cons_zero, List.getElem_cons_succ, List.setIfInBounds_toArray, List.set_cons_zero, List.set_cons_succ]
      refine wpAnyH_take (i := 7) (v := ?_) rfl (by kernel_rfl) (by kernel_rfl) (by kernel_rfl) (fun _ _ _ h => h) (Or.inl ⟨by rfl, ?_⟩) (by assumption) ?_
      rotate_left 1
      · intro w _; go_simp; try with_reducible rfl
      try simp only [Act.put, List.getElem_toArray, List.getElem_cons_zero, List.getElem_cons_succ, List.setIfInBounds_toArray, List.set_cons_zero, List.set_cons_succ]
      refine wpAnyH_take (i := 8) (v := ?_) rfl (by kernel_rfl) (by kernel_rfl) (by kernel_rfl) (fun _ _ _ h => h) (Or.inl ⟨by rfl, ?_⟩) (by assumption) ?_
      rotate_left 1
      · intro w _; go_simp; try with_reducible rfl
      try simp only [Act.put, List.getElem_toArray, List.getElem_cons_zero, List.getElem_cons_succ, List.setIfInBounds_toArray, List.set_cons_zero, List.set_cons_succ]
      refine wpAnyH_take (i := 9) (v := ?_) rfl (by kernel_rfl) (by kernel_rfl) (by kernel_rfl) (fun _ _ _ h => h) (Or.inl ⟨by rfl, ?_⟩) (by assumption) ?_
      rotate_left 1
      · intro w _; go_simp; try with_reducible rfl
      try simp only [Act.put, List.getElem_toArray, List.getElem_cons_zero, List.getElem_cons_succ, List.setIfInBounds_toArray, List.set_cons_zero, List.set_cons_succ]
      refine wpAnyH_take (i := 10) (v := ?_) rfl (by kernel_rfl) (by kernel_rfl) (by kernel_rfl) (fun _ _ _ h => h) (Or.inl ⟨by rfl, ?_⟩) (by assumption) ?_
      rotate_left 1
      · intro w hSw; (try dsimp only at hSw); obtain ⟨-, -, s0, s1, -⟩ := hSw.out; go_simp; try with_reducible rfl
      try simp only [Act.put, List.getElem_toArray, List.getElem_cons_zero, List.getElem_cons_succ, List.setIfInBounds_toArray, List.set_cons_zero, List.set_cons_succ]
      refine wpAnyH_take (i := 11) (v := ?_) rfl (by kernel_rfl) (by kernel_rfl) (by kernel_rfl) (fun _ _ _ h => h) (Or.inl ⟨by rfl, ?_⟩) (by assumption) ?_
      rotate_left 1
      · intro w _; go_simp; try with_reducible rfl
      try simp only [Act.put, List.getElem_toArray, List.getElem_cons_zero, List.getElem_cons_succ, List.setIfInBounds_toArray, List.set_cons_zero, List.set_cons_succ]
      refine wpAnyH_ready (rs := [12]) (by kernel_rfl) (by simp) ?_
      refine AllReadyH.cons rfl (fun K hK => ?_) AllReadyH.nil
      go_simp
      have R4 := Lib.hid (Ri.drewN (ri_new wr x HOK.out) 1)
      have O4 := Lib.hid (own_below HO.out (below_draws (new1 (a := .cells #[.int .u8 x.1, .int .i64 x.2.1, .int .i64 0] 52)) 1) (Nat.le_refl _))
      rw [hx0] at R4
      have B4 := Lib.hid (HB.out.trans ((below_draws (new1 (w := wr) (a := .cells #[.int .u8 x.1, .int .i64 x.2.1, .int .i64 0] 52)) 1).mono HB.out.size))
      refine hK.out _ _ (Lib.hid ⟨B4.out, SN.out _ B4.out⟩) (fun hHeld => ?_)
      clear hK K
      try simp only [Act.put, List.getElem_toArray, List.getElem_cons_zero, List.getElem_cons_succ, List.setIfInBounds_toArray, List.set_cons_zero, List.set_cons_succ]
      refine wpAnyH_ready (rs := [13]) (by kernel_rfl) (by simp) ?_
      refine AllReadyH.cons rfl (fun K hK => ?_) AllReadyH.nil
      refine step_append_ri rfl (.tmp 12) (.tmp 24) rfl w.heap.size _ j (L.take j) rfl O4.out _ 1 1 [x] rfl R4.out rfl (by omega) B4.out.size ?_
      intro A9 c9 w9 ho hg hb
      have O9 := Lib.hid ho
      have B9 := Lib.hid (B4.out.trans hb)
      clear ho hg
      refine hK.out _ _ (Lib.hid ⟨B9.out, SN.out _ B9.out⟩) (fun hHeld => ?_)
      clear hK K
      try simp only [Act.put, List.getElem_toArray, List.getElem_cons_zero, List.getElem_cons_succ, List.setIfInBounds_toArray, List.set_cons_zero, List.set_cons_succ]
      refine wpAnyH_take (i := 14) (v := ?_) rfl (by kernel_rfl) (by kernel_rfl) (by kernel_rfl) (fun _ _ _ h => h) (Or.inl ⟨by rfl, ?_⟩) (by assumption) ?_
      rotate_left 1
      · intro w _; go_simp; try with_reducible rfl
      try simp only [Act.put, List.getElem_toArray, List.getElem_cons_zero, List.getElem_cons_succ, List.setIfInBounds_toArray, List.set_cons_zero, List.set_cons_succ]
      refine wpAnyH_done (by kernel_rfl) ?_ _
      clear hHeld
      have HO9 : Hid (w9.ownsRow w.heap.size 52 3 (.slice A9 (j + 1) c9) (j + 1) (cei (L.take (j + 1)))) := by
        have h := O9.out
        rw [Hid, List.take_add_one, List.getElem?_eq_getElem h1, hx.out]
        exact h
      go_wp2_with fail
      go_roundw
      case rel => exact ⟨j + 1, k + 2, A9, c9, by omega, by go_num, Lib.hid (by have := HK.out; omega), rfl, HO9, B9⟩
      case measure => simp [intOf]; omega
    · obtain rfl : j = L.length := by omega
      have hk1 : ¬ k + 1 < n := by have := HK.out; omega
      rw [List.take_of_length_le (Nat.le_refl _)] at HO
      go_wp2_with fail
      go_ret
      exact ⟨A1, c1, rfl, HO.out, HB.out⟩
end Go.Proofs.Ytfchdggefedgoaa
