/-
  Layer 6, package pool: what slices.Clone, grown and Add answer: the values with one more (or as they were), in memory of their own.
-/
import Derived.Test.YtohbndjfnakelaaDoorQm
import Derived.ArgAppend
import Derived.Laws.Cover3
namespace Go.Proofs.YtohbndjfnakelaaDoor
open Go.RowKit
set_option maxRecDepth 100000
set_option linter.unusedSimpArgs false
set_option linter.unusedVariables false

/-- A slice whose capacity is cut off reads as before. -/
theorem Rv.cut {w : World} {A : Option Addr} {c : Nat} {L : List Vlu} (h : Rv w A c L) : Rv w A L.length L := by
  refine ⟨h.1, Nat.le_refl _, Nat.le_trans h.2.1 h.2.2.1, ?_⟩
  rcases h.2.2.2 with ⟨h1, h2⟩ | h
  · exact .inl ⟨h1, by have := h.2.1; omega⟩
  · exact .inr h
/-- append to a slice without room, of whoever's: new memory. -/
theorem wpList_append_rv_full (w : World) {ops : Array Oper} {rest : List Oper} {o : Oper} {a : Act} {Q : Exit → Act → World → Prop} (hgd : o.guard = none) (s x : Operand)
    (ho : o.op = .call { callee := .builtin .append, args := #[s, x], argTypes := #[22, 22] })
    (A : Option Addr) (n : Nat) (K : List Vlu) (hs : a.eval s = .slice A n n) (h0 : Rv w A n K) (hn : K.length = n)
    (ad : Addr) (m c : Nat) (L : List Vlu) (hx : a.eval x = .slice (some ad) m c) (hr : Rv w (some ad) c L) (hm : m = L.length) (h1 : 0 < m) (hbytes : n + m ≤ 1000000)
    (h : ∀ A' c' w', w'.ownsRow w.heap.size 24 3 (.slice A' (n + m) c') (n + m) (cev (K ++ L)) → Below w.heap.size w w' → wpList Tryd.prog ops Q rest (a.put o.dst (.slice A' (n + m) c')) w') : wpList Tryd.prog ops Q (o :: rest) a w := by
  have hinfo := Tryd.infoV
  rw [Option.map_eq_some_iff] at hinfo
  obtain ⟨i, hi, hz⟩ := hinfo
  simp only [Prod.mk.injEq] at hz
  obtain ⟨hz0, hz1, hz2⟩ := hz
  have hc : 0 < c := by have := hr.le; omega
  refine wpList_append_grows w hgd s x 22 ho 24 i _ 3 24 Tryd.underlying22 hi hz0 hz1 hz2 rfl (by decide) A n n (cev K) hs ?none_ (by rw [length_cev, hn]) ?cells ad m c (cev L) hx (by rw [length_cev, hm]) (rv_cells hr hc) (cev_one L) (by omega) (by unfold maxLen; omega) (by omega) ?_
  case none_ =>
    intro hA
    rcases h0.2.2.2 with ⟨_, h2⟩ | ⟨ad', h2, _⟩
    · exact ⟨h2, h2⟩
    · rw [hA] at h2; cases h2
  case cells =>
    intro b hb j u hj
    subst hb
    by_cases hn0 : 0 < n
    · exact rv_cells h0 hn0 j u hj
    · have : K = [] := List.eq_nil_of_length_eq_zero (by omega)
      subst this
      cases hj
  intro v' w' hown hg
  obtain ⟨A', c', rfl⟩ := own_form hown
  exact h A' c' w' (by rw [cev_append]; exact hown) ⟨hg.os, hg.tape, hg.output, hg.size, fun i hi => hg.block i hi (by simp)⟩
theorem grown_any (A : Option Addr) (m : Nat) (L : List Vlu) (k a b : Int) (w : World) (hr : Rv w A m L) (hm : L.length = m) (hl : m ≤ 2000) (hx : VlOk (k, a, b)) : Calls Tryd.prog 27 #[.agg #[.int .u8 k, .int .i64 a, .int .i64 b], .slice A m m] w fun e w' =>
    ∃ A' c', e = .returned (.slice A' (m + 1) c') ∧ w'.ownsRow w.heap.size 24 3 (.slice A' (m + 1) c') (m + 1) (cev (L ++ [(k, a, b)])) ∧ Below w.heap.size w w' := by
  have S1 := Lib.hid (((Sx.start w).add (fW A m L) hr).mkV k a b)
  have S2 := Lib.hid (S1.out.mk1 (.cells #[.int .u8 k, .int .i64 a, .int .i64 b] 24))
  have HR2 := Lib.hid (rv_new (w.alloc (.cells #[.int .u8 k, .int .i64 a, .int .i64 b] 24)) (k, a, b) hx)
  have h1 := S1.out.1.size
  have h2 : w.heap.size ≤ w.heap.size + 1 + 1 := by omega
  clear hr
  rw [size1] at HR2
  obtain ⟨-, ⟨z0, z1, z2, z3, -⟩, -⟩ := id S1.out
  go_enter Tryd.func27, Tryd.ntmps27
  go_wp2_with (at_builtin; refine wpList_append_rv_full _ rfl (.tmp 5) (.tmp 7) rfl A m L rfl S2.out.2.2.1 hm _ 1 1 [(k, a, b)] rfl HR2.out rfl (by omega) (by omega) ?_)
  intro A' c' w4 ho hb
  have HO := Lib.hid (own_base ho h2)
  have HB := Lib.hid (S2.out.1.trans (hb.mono h2))
  clear ho hb
  go_wp2_with fail
  go_ret
  exact ⟨A', c', rfl, HO.out, HB.out⟩
theorem slice_nil_v (w : World) (A : Option Addr) (m c : Nat) : (binOp .eql 22 (.slice A m c) (.slice none 0 0)).run Tryd.prog w = .ok (.bool A.isNone) w := by
  simp [binOp, run_equal_slice_nil w 22 24 A m c Tryd.underlying22]
theorem sclone_any (A : Option Addr) (c m : Nat) (L : List Vlu) (w : World) (hr : Rv w A c L) (hm : L.length = m) (hl : m ≤ 1000000) : Calls Tryd.prog 26 #[.slice A m c] w fun e w' => ∃ A' c', e = .returned (.slice A' m c') ∧ w'.ownsRow w.heap.size 24 3 (.slice A' m c') m (cev L) ∧ Below w.heap.size w w' := by
  cases A with
  | none =>
    obtain rfl : c = 0 := by rcases hr.2.2.2 with ⟨_, h⟩ | ⟨_, h, _⟩; exact h; cases h
    obtain rfl : L = [] := List.eq_nil_of_length_eq_zero (by have := hr.le; omega)
    obtain rfl : m = 0 := hm.symm
    have q := fun w => slice_nil_v w none 0 0
    go_enter Tryd.func26, Tryd.ntmps26
    go_wp2_with fail
    go_ret
    exact ⟨none, 0, rfl, World.ownsRow_nil _ _ _ _, Below.refl _ _⟩
  | some ad =>
    have HO := Lib.hid (show (w.alloc (.cells #[] 24)).ownsRow w.heap.size 24 3 (.slice (some ⟨w.heap.size, 0, none⟩) 0 0) 0 (cev []) from
      World.ownsRow_lit (base := w.heap.size) (e := 24) (size := 3) w #[] 0 (Nat.le_refl _) (by unfold maxLen; simp) (by simp))
    have HR := Lib.hid (hr.keep (new1 (a := .cells #[] 24)))
    clear hr
    have q := fun w => slice_nil_v w (some ad) m c
    go_enter Tryd.func26, Tryd.ntmps26
    go_wp2_with (at_builtin; refine wpList_append_rv _ rfl (.tmp 5) (.tmp 6) rfl w.heap.size _ 0 [] rfl HO.out (some ad) m c L rfl HR.out hm.symm (by omega) (by simp) ?_)
    intro A' c' w1 ho hb
    have HO1 := Lib.hid ho
    have HB := Lib.hid (new1.trans hb)
    clear ho hb
    go_wp2_with fail
    go_ret
    exact ⟨A', c', rfl, by simpa using HO1.out, HB.out⟩
set_option maxHeartbeats 4000000 in
theorem padd_any (A : Option Addr) (c m : Nat) (L : List Vlu) (k a b : Int) (w : World) (hr : Rv w A c L) (hm : L.length = m) (hl : m ≤ 2000) (hx : VlOk (k, a, b)) : Calls Tryd.prog 15 #[.slice A m c, .agg #[.int .u8 k, .int .i64 a, .int .i64 b]] w fun e w' =>
    ∃ A' c', e = .returned (.tuple #[.slice A' (adP L (k, a, b)).1.length c', .int .i64 (adP L (k, a, b)).2.1, .int .i64 (adP L (k, a, b)).2.2]) ∧ w'.ownsRow w.heap.size 24 3 (.slice A' (adP L (k, a, b)).1.length c') (adP L (k, a, b)).1.length (cev (adP L (k, a, b)).1) ∧ Below w.heap.size w w' := by
  subst hm
  have hlen := hr.len
  have hle := hr.le
  have HOK := Lib.hid hr.1
  have S0 := Lib.hid (((Sx.start w).add (fW A c L) hr).mkV k a b)
  have D1 : Hid (poM L = false → adP L (k, a, b) = ([], 0, 60)) := fun h => by rw [adP, if_neg (by rw [h]; decide)]
  have D2 : Hid (poM L = true → fdK L (k, a, b) < L.length → adP L (k, a, b) = (L, (fdK L (k, a, b) : Int), 0)) := fun h h2 => by rw [adP, if_pos h, if_pos h2]
  have D3 : Hid (poM L = true → ¬ fdK L (k, a, b) < L.length → poM (L ++ [(k, a, b)]) = true → adP L (k, a, b) = (L ++ [(k, a, b)], (L.length : Int), 0)) := fun h h2 h3 => by rw [adP, if_pos h, if_neg h2, if_pos h3]
  have D4 : Hid (poM L = true → ¬ fdK L (k, a, b) < L.length → poM (L ++ [(k, a, b)]) = false → adP L (k, a, b) = ([], 0, 60)) := fun h h2 h3 => by rw [adP, if_pos h, if_neg h2, if_neg (by rw [h3]; decide)]
  generalize adP L (k, a, b) = R at *
  clear hr
  go_enter Tryd.func15, Tryd.ntmps15
  go_wp2_with fail
  generalize w.alloc (.cells #[.int .u8 k, .int .i64 a, .int .i64 b] 24) = w1 at S0 ⊢
  generalize hbk : w.heap.size = B at S0 ⊢
  refine (pmay_any A c _ L _ S0.out.2.2.1 rfl).mono ?_
  rintro e w2 ⟨rfl, hb2⟩
  have S1 := Lib.hid (S0.out.call hb2)
  clear hb2 S0
  cases hc : poM L with
  | false =>
    have HN := Lib.hid (D1.out hc)
    go_wp2_with fail
    go_ret3
    obtain rfl := HN.out
    exact ⟨none, 0, rfl, World.ownsRow_nil _ _ _ _, hbk ▸ S1.out.1⟩
  | true =>
    have HC := Lib.hid hc
    have hl2 := poM_le hc
    clear hc
    obtain ⟨-, ⟨z0, z1, z2, z3, -⟩, -⟩ := id S1.out
    go_wp2_with fail
    refine (pfind_any A c _ L k a b _ S1.out.2.2.1 rfl).mono ?_
    rintro e w2 ⟨rfl, hb2⟩
    have S2 := Lib.hid (S1.out.call hb2)
    clear hb2 S1 z0 z1 z2 z3
    by_cases hf : fdK L (k, a, b) < L.length
    · have HN := Lib.hid (D2.out HC.out hf)
      have HF : Hid (fdI L (k, a, b) = (fdK L (k, a, b) : Int)) := by rw [Hid, fdI, if_pos hf]
      rw [HF.out]
      generalize fdK L (k, a, b) = q at *
      go_wp2_with fail
      refine (sclone_any A c L.length L _ S2.out.2.2.1 rfl (by omega)).mono ?_
      rintro e w3 ⟨A3, c3, rfl, ho3, hb3⟩
      have HO3 := Lib.hid (own_base ho3 S2.out.1.size)
      have HB3 := Lib.hid (below_on S2.out.1 hb3)
      clear ho3 hb3
      go_wp2_with fail
      go_ret3
      obtain rfl := HN.out
      exact ⟨A3, c3, rfl, hbk ▸ HO3.out, hbk ▸ HB3.out⟩
    · have HF : Hid (fdI L (k, a, b) = -1) := by rw [Hid, fdI, if_neg hf]
      rw [HF.out]
      go_upto_region 6 with (fail)
      refine wp_region_held_drew (S := fun w' => Hid (Below w2.heap.size w2 w')) (by kernel_rfl) (Lib.hid (below_draws (Below.refl _ _) 1)) (fun hHeld => ?_)
      refine wpAnyH_take (i := 0) (v := ?_) rfl (by kernel_rfl) (by kernel_rfl) (by kernel_rfl) (fun _ _ _ h => h) (Or.inl ⟨by rfl, ?_⟩) (by assumption) ?_
      rotate_left 1
      · intro w hSw; (try dsimp only at hSw); obtain ⟨-, ⟨z0, z1, z2, z3, -⟩, -⟩ := S2.out.call hSw.out; go_simp; try with_reducible rfl
      try simp only [Act.put, List.getElem_toArray, List.getElem_cons_zero, List.getElem_cons_succ, List.setIfInBounds_toArray, List.set_cons_zero, List.set_cons_succ]
      refine wpAnyH_take (i := 1) (v := ?_) rfl (by kernel_rfl) (by kernel_rfl) (by kernel_rfl) (fun _ _ _ h => h) (Or.inl ⟨by rfl, ?_⟩) (by assumption) ?_
      rotate_left 1
      · intro w _; go_simp; try with_reducible rfl
      try simp only [Act.put, List.getElem_toArray, List.getElem_cons_zero, List.getElem_cons_succ, List.setIfInBounds_toArray, List.set_cons_zero, List.set_cons_succ]
      refine wpAnyH_take (i := 2) (v := ?_) rfl (by kernel_rfl) (by kernel_rfl) (by kernel_rfl) (fun _ _ _ h => h) (Or.inl ⟨by rfl, ?_⟩) (by assumption) ?_
      rotate_left 1
      · intro w _; go_simp; try with_reducible rfl
      try simp only [Act.put, List.getElem_toArray, List.getElem_cons_zero, List.getElem_cons_succ, List.setIfInBounds_toArray, List.set_cons_zero, List.set_cons_succ]
      refine wpAnyH_take (i := 3) (v := ?_) rfl (by kernel_rfl) (by kernel_rfl) (by kernel_rfl) (fun _ _ _ h => h) (Or.inl ⟨by rfl, ?_⟩) (by assumption) ?_
      rotate_left 1
      · intro w _; go_simp; try with_reducible rfl
      try simp only [Act.put, List.getElem_toArray, List.getElem_cons_zero, List.getElem_cons_succ, List.setIfInBounds_toArray, List.set_cons_zero, List.set_cons_succ]
      refine wpAnyH_take (i := 4) (v := ?_) rfl (by kernel_rfl) (by kernel_rfl) (by kernel_rfl) (fun _ _ _ h => h) (Or.inl ⟨by rfl, ?_⟩) (by assumption) ?_
      rotate_left 1
      · intro w _; go_simp; try with_reducible rfl
      try simp only [Act.put, List.getElem_toArray, List.getElem_cons_zero, List.getElem_cons_succ, List.setIfInBounds_toArray, List.set_cons_zero, List.set_cons_succ]
      refine wpAnyH_take (i := 5) (v := ?_) rfl (by kernel_rfl) (by kernel_rfl) (by kernel_rfl) (fun _ _ _ h => h) (Or.inl ⟨by rfl, ?_⟩) (by assumption) ?_
      rotate_left 1
      · intro w _; go_simp; try with_reducible rfl
      try simp only [Act.put, List.getElem_toArray, List.getElem_cons_zero, List.getElem_cons_succ, List.setIfInBounds_toArray, List.set_cons_zero, List.set_cons_succ]
      refine wpAnyH_take (i := 6) (v := ?_) rfl (by kernel_rfl) (by kernel_rfl) (by kernel_rfl) (fun _ _ _ h => h) (Or.inl ⟨by rfl, ?_⟩) (by assumption) ?_
      rotate_left 1
      · intro w _; go_simp; try with_reducible rfl
      try simp only [Act.put, List.getElem_toArray, List.getElem_cons_zero, List.getElem_cons_succ, List.setIfInBounds_toArray, List.set_cons_zero, List.set_cons_succ]
      refine wpAnyH_ready (rs := [7]) (by kernel_rfl) (by simp) ?_
      refine AllReadyH.cons rfl (fun K hK => ?_) AllReadyH.nil
      go_simp
      refine (grown_any A L.length L k a b _ (S2.out.call hHeld.out).2.2.1.cut rfl (by omega) hx).mono ?_
      rintro e wb ⟨Ab, cb, rfl, hob, hb⟩
      have O1 := Lib.hid (own_base hob hHeld.out.size)
      clear hob
      go_wp2_with fail
      refine hK.out _ _ (Lib.hid (below_on hHeld.out hb)) (fun hHeld => ?_)
      clear hK K
      try simp only [Act.put, List.getElem_toArray, List.getElem_cons_zero, List.getElem_cons_succ, List.setIfInBounds_toArray, List.set_cons_zero, List.set_cons_succ]
      refine wpAnyH_take (i := 8) (v := ?_) rfl (by kernel_rfl) (by kernel_rfl) (by kernel_rfl) (fun _ _ _ h => h) (Or.inl ⟨by rfl, ?_⟩) (by assumption) ?_
      rotate_left 1
      · intro w _; go_simp; try with_reducible rfl
      try simp only [Act.put, List.getElem_toArray, List.getElem_cons_zero, List.getElem_cons_succ, List.setIfInBounds_toArray, List.set_cons_zero, List.set_cons_succ]
      refine wpAnyH_done (by kernel_rfl) ?_ _
      have S3 := Lib.hid (S2.out.1.trans (hHeld.out.mono S2.out.1.size))
      have HR3 := Lib.hid (Rv.of_own O1.out (by intro u hu; rcases List.mem_append.1 hu with hu | hu; exact HOK.out u hu; rw [List.mem_singleton.1 hu]; exact hx)).1
      clear hHeld
      go_wp2_with fail
      refine (pmay_any Ab cb _ (L ++ [(k, a, b)]) _ HR3.out (by simp)).mono ?_
      rintro e w4 ⟨rfl, hb4⟩
      have HB4 := Lib.hid (below_on S3.out hb4)
      have O4 := Lib.hid (own_below O1.out hb4 S2.out.1.size)
      cases hv : poM (L ++ [(k, a, b)]) with
      | false =>
        have HN := Lib.hid (D4.out HC.out hf hv)
        go_wp2_with fail
        go_ret3
        obtain rfl := HN.out
        exact ⟨none, 0, rfl, World.ownsRow_nil _ _ _ _, hbk ▸ HB4.out⟩
      | true =>
        have HN := Lib.hid (D3.out HC.out hf hv)
        go_wp2_with fail
        go_ret3
        obtain rfl := HN.out
        exact ⟨Ab, cb, by simp, by simpa [hbk] using O4.out, hbk ▸ HB4.out⟩
theorem kpadd (F : Fct) : KPAdd F := fun A c m L k a b w _ hr hm hl hx => padd_any A c m L k a b w hr hm hl hx
end Go.Proofs.YtohbndjfnakelaaDoor
