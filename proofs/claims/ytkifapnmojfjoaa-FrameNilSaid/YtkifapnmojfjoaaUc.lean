/-
  Layer 16: the reference's Set, Push, Pop.
-/
import Derived.Test.YtkifapnmojfjoaaUb
import Derived.BigQuiet
namespace Go.Proofs.Ytkifapnmojfjoaa
open Go.RowKit
set_option maxRecDepth 100000
set_option linter.unusedSimpArgs false
set_option linter.unusedVariables false

/-- append of values, as one step of a region that draws its order, with what becomes of the row's block. -/
theorem step_append_rvgb {w : World} {ops : Array Oper} {o : Oper} {a : Act} {K : Act → World → Prop} {Q : Exit → Act → World → Prop} {E : Prop} (hgd : o.guard = none) (s x : Operand)
    (ho : o.op = .call { callee := .builtin .append, args := #[s, x], argTypes := #[23, 23] })
    (v : Value) (n : Nat) (K0 : List Vlu) (hs : a.eval s = v) (hown : w.ownsRow 0 33 3 v n (cev K0))
    (ad : Addr) (m c : Nat) (L : List Vlu) (hx : a.eval x = .slice (some ad) m c) (hr : Rv w (some ad) c L) (hc : 0 < c) (hm : m = L.length) (hbytes : n + m ≤ 1000000)
    (h : ∀ A' c' w', w'.ownsRow 0 33 3 (.slice A' (n + m) c') (n + m) (cev (K0 ++ L)) → w.grownBy w' v.ownBlock → ((Value.slice A' (n + m) c').ownBlock = v.ownBlock ∨ (Value.slice A' (n + m) c').ownBlock = some w.heap.size) → K (a.put o.dst (.slice A' (n + m) c')) w') :
    if Region.wanted o (yielded ops a.tmps) = true then Oper.wp Try.prog o a w K Q else E := by
  have hw : Region.wanted o (yielded ops a.tmps) = true := by simp [Region.wanted, hgd]
  rw [if_pos hw]
  have hinfo := Try.infoV
  rw [Option.map_eq_some_iff] at hinfo
  obtain ⟨i, hi, hz⟩ := hinfo
  simp only [Prod.mk.injEq] at hz
  obtain ⟨hz0, hz1, hz2⟩ := hz
  obtain ⟨v', w', hr', h2, h3, h4, h5⟩ := run_append_own_at (P := Try.prog) w 0 23 o.type 33 i _ 3 24 Try.underlying23 hi hz0 hz1 hz2 rfl (by decide) v n (cev K0) hown ad m c (cev L) (by rw [length_cev, hm]) (rv_cells hr hc) (cev_one L) (by unfold maxLen; omega) (by omega) (Nat.zero_le _)
  obtain ⟨A', c', rfl⟩ := own_form h2
  unfold Oper.wp execOp
  simp only [ho, resolve, invoke, builtin, Sem.run_bind, Sem.run_pure, Result.andThen_ok, List.map_toArray, List.map_cons, List.map_nil, hs, hx, hr']
  exact h A' c' w' (by rw [cev_append]; exact h2) h3 h5
theorem sB16_g {f : Fm} {i : Int} {v : Vlu} (h : sB16 f i v = true) : gB16 f i = true ∧ (gV16 f i).1 = v.1 := by
  simp only [sB16, Bool.and_eq_true, beq_iff_eq] at h
  exact h
theorem rset_v (X : Nat → Prop) (B : Nat) (f : Fm) (i v0 v1 v2 : Int) (w : World) (h : Rf16 X w B f) (hv : VlOk (v0, v1, v2)) :
    Calls Try.prog 26 #[.pointer (some ⟨B, 0, none⟩), .int .i64 i, .agg #[.int .u8 v0, .int .i64 v1, .int .i64 v2]] w fun e w' => e = .returned (.bool (sB16 f i (v0, v1, v2))) ∧ Rf16 X w' B (sF16 f i (v0, v1, v2)) ∧ Fr11 X w w' := by
  have H0 := Lib.hid h
  obtain ⟨A, A2, A3, c, c2, c3, T, h, x0, x1, x2, x3, x4⟩ := h
  obtain ⟨b0, -, -, -⟩ := h.c0
  have hm := h.many
  have H := Lib.hid h
  have X1 := Lib.hid x1
  have X2 := Lib.hid x2
  have X3 := Lib.hid x3
  have X4 := Lib.hid x4
  obtain ⟨n, hn⟩ : ∃ n, f.l.length = n := ⟨_, rfl⟩
  rw [hn] at b0
  have hn9 : n ≤ 256 := by unfold n16 at hm; omega
  have HN := Lib.hid hn
  have hl0 : B < w.heap.size := cell_lt b0
  have HV := Lib.hid hv
  clear h hn hm x1 x2 x3 x4 hv
  cases hg : gB16 f i with
  | true =>
    have HG := Lib.hid hg
    have hb := hg
    simp only [gB16, Bool.and_eq_true, decide_eq_true_eq, HN.out] at hb
    obtain ⟨h1, h2⟩ := hb
    obtain ⟨k, rfl⟩ : ∃ k : Nat, i = (k : Int) := ⟨i.toNat, by omega⟩
    have hx : f.l[k]? = some (gV16 f k) := by rw [gV16, if_pos hg, Int.toNat_natCast, List.getElem?_eq_getElem (by rw [HN.out]; omega)]; rfl
    obtain ⟨g, hA, ⟨a0, a1, a2⟩, hfz⟩ := val16 H.out.rl hx
    subst hA
    obtain ⟨⟨y0, y1, y2⟩, hx2⟩ : ∃ x, gV16 f k = x := ⟨_, rfl⟩
    have HX := Lib.hid hx2
    rw [hx2] at a0 a1 a2
    dsimp only at a0 a1 a2
    clear hg
    by_cases hk : y0 = v0
    · subst hk
      have HS : Hid (sB16 f k (y0, v1, v2) = true) := Lib.hid (by rw [sB16, HG.out, HX.out]; simp)
      have HF : Hid (sF16 f k (y0, v1, v2) = { f with l := f.l.set k (y0, v1, v2) }) := Lib.hid (by rw [sF16, if_pos HS.out, Int.toNat_natCast])
      clear a0 a1 a2 b0 hfz hl0
      go_enter Try.func26, Try.ntmps26
      go_upto_region 1 with (fail)
      have HBA : Hid (Below w.heap.size w (w.alloc (.cells #[.int .u8 y0, .int .i64 v1, .int .i64 v2] 33))) := Lib.hid ((Below.refl _ _).alloc (Nat.le_refl _) _)
      have HQ : Hid ((w.alloc (.cells #[.int .u8 y0, .int .i64 v1, .int .i64 v2] 33)).heap[w.heap.size]? = some (.cells #[.int .u8 y0, .int .i64 v1, .int .i64 v2] 33 (0, 0))) := Lib.hid (World.alloc_heap_new _ _)
      have HPX : Hid (¬ X w.heap.size) := Lib.hid (fun h => Nat.lt_irrefl _ (X4.out _ h))
      have XA : Hid (∀ j, X j → j < (w.alloc (.cells #[.int .u8 y0, .int .i64 v1, .int .i64 v2] 33)).heap.size) := Lib.hid (fun j hj => Nat.lt_of_lt_of_le (X4.out j hj) HBA.out.size)
      have HA := Lib.hid (H.out.fr (nb16 HBA.out) id (fun _ _ => id) (fun _ _ => id) (fun _ _ => id))
      obtain ⟨wa, hwa⟩ : ∃ wa, w.alloc (.cells #[.int .u8 y0, .int .i64 v1, .int .i64 v2] 33) = wa := ⟨_, rfl⟩
      rw [hwa] at HBA HQ XA HA ⊢
      clear hwa
      obtain ⟨P0, hP0⟩ : ∃ P0, w.heap.size = P0 := ⟨_, rfl⟩
      rw [hP0] at HQ HPX ⊢
      clear hP0
      have q0 : wa.cell? ⟨P0, 0, none⟩ = some (.int .u8 y0) := by simp [World.cell?, HQ.out]
      have q1 : wa.cell? ⟨P0, 1, none⟩ = some (.int .i64 v1) := by simp [World.cell?, HQ.out]
      have q2 : wa.cell? ⟨P0, 2, none⟩ = some (.int .i64 v2) := by simp [World.cell?, HQ.out]
      have b0 := HA.out.c0.1
      rw [HN.out] at b0
      obtain ⟨g2, hA2, ⟨a0, a1, a2⟩, hfz⟩ := val16 HA.out.rl hx
      injection hA2 with hA2
      injection hA2 with hA2
      subst hA2
      rw [HX.out] at a0 a1 a2
      dsimp only at a0 a1 a2
      have f0 := hfz (k * 3)
      have f1 := hfz (k * 3 + 1)
      have f2 := hfz (k * 3 + 2)
      clear hfz hx hx2
      have HE := Lib.hid (Rf16.setl HA.out x0 X1.out X2.out X3.out XA.out rfl (k := k) (by rw [HN.out]; omega) HV.out)
      have g1 : decide ((k : Int) < 0) = false := decide_eq_false (by omega)
      have g2 : decide (n ≤ k) = false := decide_eq_false (by omega)
      refine wp_region_held_drew (S := fun w' => w'.cell? ⟨B, 0, none⟩ = some (.slice (some ⟨g, 0, none⟩) n c) ∧ w'.cell? ⟨g, k * 3, none⟩ = some (.int .u8 y0) ∧ w'.cell? ⟨P0, 0, none⟩ = some (.int .u8 y0)) (by kernel_rfl) (⟨b0, a0, q0⟩) (fun hHeld => ?_)
      refine wpAnyH_take (i := 0) (v := ?_) rfl (by kernel_rfl) (by kernel_rfl) (by kernel_rfl) (fun _ _ _ h => h) (Or.inl ⟨by rfl, ?_⟩) (by assumption) ?_
      rotate_left 1
      · intro w _; go_simp; try with_reducible rfl
      try simp only [Act.put, List.getElem_toArray, List.getElem_cons_zero, List.getElem_cons_succ, List.setIfInBounds_toArray, List.set_cons_zero, List.set_cons_succ]
      refine wpAnyH_take (i := 1) (v := ?_) rfl (by kernel_rfl) (by kernel_rfl) (by kernel_rfl) (fun _ _ _ h => h) (Or.inl ⟨by rfl, ?_⟩) (by assumption) ?_
      rotate_left 1
      · intro w _; go_simp; try with_reducible rfl
      try simp only [Act.put, List.getElem_toArray, List.getElem_cons_zero, List.getElem_cons_succ, List.setIfInBounds_toArray, List.set_cons_zero, List.set_cons_succ]
      refine wpAnyH_take (i := 2) (v := ?_) rfl (by kernel_rfl) (by kernel_rfl) (by kernel_rfl) (fun _ _ _ h => h) (Or.inl ⟨by rfl, ?_⟩) (by assumption) ?_
      rotate_left 1
      · intro w _; go_simp; try with_reducible rfl
      try simp only [Act.put, List.getElem_toArray, List.getElem_cons_zero, List.getElem_cons_succ, List.setIfInBounds_toArray, List.set_cons_zero, List.set_cons_succ]
      refine wpAnyH_take (i := 3) (v := ?_) rfl (by kernel_rfl) (by kernel_rfl) (by kernel_rfl) (fun _ _ _ h => h) (Or.inl ⟨by rfl, ?_⟩) (by assumption) ?_
      rotate_left 1
      · intro w _; go_simp; try with_reducible rfl
      try simp only [Act.put, List.getElem_toArray, List.getElem_cons_zero, List.getElem_cons_succ, List.setIfInBounds_toArray, List.set_cons_zero, List.set_cons_succ]
      refine wpAnyH_take (i := 4) (v := ?_) rfl (by kernel_rfl) (by kernel_rfl) (by kernel_rfl) (fun _ _ _ h => h) (Or.inl ⟨by rfl, ?_⟩) (by assumption) ?_
      rotate_left 1
      · intro w _; go_simp; try with_reducible rfl
      try simp only [Act.put, List.getElem_toArray, List.getElem_cons_zero, List.getElem_cons_succ, List.setIfInBounds_toArray, List.set_cons_zero, List.set_cons_succ]
      refine wpAnyH_take (i := 5) (v := ?_) rfl (by kernel_rfl) (by kernel_rfl) (by kernel_rfl) (fun _ _ _ h => h) (Or.inl ⟨by rfl, ?_⟩) (by assumption) ?_
      rotate_left 1
      · intro w _; go_simp; try with_reducible rfl
      try simp only [Act.put, List.getElem_toArray, List.getElem_cons_zero, List.getElem_cons_succ, List.setIfInBounds_toArray, List.set_cons_zero, List.set_cons_succ]
      refine wpAnyH_take (i := 6) (v := ?_) rfl (by kernel_rfl) (by kernel_rfl) (by kernel_rfl) (fun _ _ _ h => h) (Or.inl ⟨by rfl, ?_⟩) (by assumption) ?_
      rotate_left 1
      · intro w _; go_simp; try with_reducible rfl
      try simp only [Act.put, List.getElem_toArray, List.getElem_cons_zero, List.getElem_cons_succ, List.setIfInBounds_toArray, List.set_cons_zero, List.set_cons_succ]
      refine wpAnyH_take (i := 7) (v := ?_) rfl (by kernel_rfl) (by kernel_rfl) (by kernel_rfl) (fun _ _ _ h => h) (Or.inl ⟨by rfl, ?_⟩) (by assumption) ?_
      rotate_left 1
      · intro w hSw; (try dsimp only at hSw); obtain ⟨s1, s2, s3⟩ := hSw; go_simp; try with_reducible rfl
      try simp only [Act.put, List.getElem_toArray, List.getElem_cons_zero, List.getElem_cons_succ, List.setIfInBounds_toArray, List.set_cons_zero, List.set_cons_succ]
      refine wpAnyH_take (i := 8) (v := ?_) rfl (by kernel_rfl) (by kernel_rfl) (by kernel_rfl) (fun _ _ _ h => h) (Or.inl ⟨by rfl, ?_⟩) (by assumption) ?_
      rotate_left 1
      · intro w _; go_simp; try with_reducible rfl
      try simp only [Act.put, List.getElem_toArray, List.getElem_cons_zero, List.getElem_cons_succ, List.setIfInBounds_toArray, List.set_cons_zero, List.set_cons_succ]
      refine wpAnyH_take (i := 9) (v := ?_) rfl (by kernel_rfl) (by kernel_rfl) (by kernel_rfl) (fun _ _ _ h => h) (Or.inl ⟨by rfl, ?_⟩) (by assumption) ?_
      rotate_left 1
      · intro w _; go_simp; try with_reducible rfl
      try simp only [Act.put, List.getElem_toArray, List.getElem_cons_zero, List.getElem_cons_succ, List.setIfInBounds_toArray, List.set_cons_zero, List.set_cons_succ]
      refine wpAnyH_take (i := 10) (v := ?_) rfl (by kernel_rfl) (by kernel_rfl) (by kernel_rfl) (fun _ _ _ h => h) (Or.inl ⟨by rfl, ?_⟩) (by assumption) ?_
      rotate_left 1
      · intro w _; go_simp; try with_reducible rfl
      try simp only [Act.put, List.getElem_toArray, List.getElem_cons_zero, List.getElem_cons_succ, List.setIfInBounds_toArray, List.set_cons_zero, List.set_cons_succ]
      refine wpAnyH_take (i := 11) (v := ?_) rfl (by kernel_rfl) (by kernel_rfl) (by kernel_rfl) (fun _ _ _ h => h) (Or.inl ⟨by rfl, ?_⟩) (by assumption) ?_
      rotate_left 1
      · intro w _; go_simp; try with_reducible rfl
      try simp only [Act.put, List.getElem_toArray, List.getElem_cons_zero, List.getElem_cons_succ, List.setIfInBounds_toArray, List.set_cons_zero, List.set_cons_succ]
      refine wpAnyH_take (i := 12) (v := ?_) rfl (by kernel_rfl) (by kernel_rfl) (by kernel_rfl) (fun _ _ _ h => h) (Or.inl ⟨by rfl, ?_⟩) (by assumption) ?_
      rotate_left 1
      · intro w _; go_simp; try with_reducible rfl
      try simp only [Act.put, List.getElem_toArray, List.getElem_cons_zero, List.getElem_cons_succ, List.setIfInBounds_toArray, List.set_cons_zero, List.set_cons_succ]
      refine wpAnyH_take (i := 13) (v := ?_) rfl (by kernel_rfl) (by kernel_rfl) (by kernel_rfl) (fun _ _ _ h => h) (Or.inl ⟨by rfl, ?_⟩) (by assumption) ?_
      rotate_left 1
      · intro w _; go_simp; try with_reducible rfl
      try simp only [Act.put, List.getElem_toArray, List.getElem_cons_zero, List.getElem_cons_succ, List.setIfInBounds_toArray, List.set_cons_zero, List.set_cons_succ]
      refine wpAnyH_take (i := 14) (v := ?_) rfl (by kernel_rfl) (by kernel_rfl) (by kernel_rfl) (fun _ _ _ h => h) (Or.inl ⟨by rfl, ?_⟩) (by assumption) ?_
      rotate_left 1
      · intro w _; go_simp; try with_reducible rfl
      try simp only [Act.put, List.getElem_toArray, List.getElem_cons_zero, List.getElem_cons_succ, List.setIfInBounds_toArray, List.set_cons_zero, List.set_cons_succ]
      refine wpAnyH_take (i := 15) (v := ?_) rfl (by kernel_rfl) (by kernel_rfl) (by kernel_rfl) (fun _ _ _ h => h) (Or.inl ⟨by rfl, ?_⟩) (by assumption) ?_
      rotate_left 1
      · intro w hSw; (try dsimp only at hSw); obtain ⟨s1, s2, s3⟩ := hSw; go_simp; try with_reducible rfl
      try simp only [Act.put, List.getElem_toArray, List.getElem_cons_zero, List.getElem_cons_succ, List.setIfInBounds_toArray, List.set_cons_zero, List.set_cons_succ]
      refine wpAnyH_take (i := 16) (v := ?_) rfl (by kernel_rfl) (by kernel_rfl) (by kernel_rfl) (fun _ _ _ h => h) (Or.inl ⟨by rfl, ?_⟩) (by assumption) ?_
      rotate_left 1
      · intro w _; go_simp; try with_reducible rfl
      try simp only [Act.put, List.getElem_toArray, List.getElem_cons_zero, List.getElem_cons_succ, List.setIfInBounds_toArray, List.set_cons_zero, List.set_cons_succ]
      refine wpAnyH_take (i := 17) (v := ?_) rfl (by kernel_rfl) (by kernel_rfl) (by kernel_rfl) (fun _ _ _ h => h) (Or.inl ⟨by rfl, ?_⟩) (by assumption) ?_
      rotate_left 1
      · intro w _; go_simp; try with_reducible rfl
      try simp only [Act.put, List.getElem_toArray, List.getElem_cons_zero, List.getElem_cons_succ, List.setIfInBounds_toArray, List.set_cons_zero, List.set_cons_succ]
      refine wpAnyH_take (i := 18) (v := ?_) rfl (by kernel_rfl) (by kernel_rfl) (by kernel_rfl) (fun _ _ _ h => h) (Or.inl ⟨by rfl, ?_⟩) (by assumption) ?_
      rotate_left 1
      · intro w _; go_simp; try with_reducible rfl
      try simp only [Act.put, List.getElem_toArray, List.getElem_cons_zero, List.getElem_cons_succ, List.setIfInBounds_toArray, List.set_cons_zero, List.set_cons_succ]
      refine wpAnyH_take (i := 19) (v := ?_) rfl (by kernel_rfl) (by kernel_rfl) (by kernel_rfl) (fun _ _ _ h => h) (Or.inl ⟨by rfl, ?_⟩) (by assumption) ?_
      rotate_left 1
      · intro w hSw; (try dsimp only at hSw); obtain ⟨s1, s2, s3⟩ := hSw; go_simp; try with_reducible rfl
      try simp only [Act.put, List.getElem_toArray, List.getElem_cons_zero, List.getElem_cons_succ, List.setIfInBounds_toArray, List.set_cons_zero, List.set_cons_succ]
      refine wpAnyH_take (i := 20) (v := ?_) rfl (by kernel_rfl) (by kernel_rfl) (by kernel_rfl) (fun _ _ _ h => h) (Or.inl ⟨by rfl, ?_⟩) (by assumption) ?_
      rotate_left 1
      · intro w _; go_simp; try with_reducible rfl
      try simp only [Act.put, List.getElem_toArray, List.getElem_cons_zero, List.getElem_cons_succ, List.setIfInBounds_toArray, List.set_cons_zero, List.set_cons_succ]
      refine wpAnyH_take (i := 21) (v := ?_) rfl (by kernel_rfl) (by kernel_rfl) (by kernel_rfl) (fun _ _ _ h => h) (Or.inl ⟨by rfl, ?_⟩) (by assumption) ?_
      rotate_left 1
      · intro w hSw; (try dsimp only at hSw); obtain ⟨s1, s2, s3⟩ := hSw; go_simp; try with_reducible rfl
      try simp only [Act.put, List.getElem_toArray, List.getElem_cons_zero, List.getElem_cons_succ, List.setIfInBounds_toArray, List.set_cons_zero, List.set_cons_succ]
      refine wpAnyH_take (i := 22) (v := ?_) rfl (by kernel_rfl) (by kernel_rfl) (by kernel_rfl) (fun _ _ _ h => h) (Or.inl ⟨by rfl, ?_⟩) (by assumption) ?_
      rotate_left 1
      · intro w _; go_simp; try with_reducible rfl
      try simp only [Act.put, List.getElem_toArray, List.getElem_cons_zero, List.getElem_cons_succ, List.setIfInBounds_toArray, List.set_cons_zero, List.set_cons_succ]
      refine wpAnyH_take (i := 23) (v := ?_) rfl (by kernel_rfl) (by kernel_rfl) (by kernel_rfl) (fun _ _ _ h => h) (Or.inl ⟨by rfl, ?_⟩) (by assumption) ?_
      rotate_left 1
      · intro w _; go_simp; try with_reducible rfl
      try simp only [Act.put, List.getElem_toArray, List.getElem_cons_zero, List.getElem_cons_succ, List.setIfInBounds_toArray, List.set_cons_zero, List.set_cons_succ]
      refine wpAnyH_done (by kernel_rfl) ?_ _
      clear hHeld
      go_upto_region 3 with (fail)
      go_region
      go_wp2_with fail
      go_ret
      rw [HS.out, HF.out]
      exact ⟨rfl, HE.out.1.keep (below_draws (Below.refl _ _) 2), (((Fr11.of_below (X := X) HBA.out (fun j h1 h2 => by omega)).trans HE.out.2 (fun _ _ => id)).drewN 2)⟩
    · have hne : (y0 != v0) = true := by simpa using hk
      have HS : Hid (sB16 f k (v0, v1, v2) = false) := Lib.hid (by rw [sB16, HG.out, HX.out]; simpa using hk)
      have HF : Hid (sF16 f k (v0, v1, v2) = f) := Lib.hid (by rw [sF16, if_neg (by rw [HS.out]; decide)])
      clear hk a0 a1 a2 b0 hfz hl0
      go_enter Try.func26, Try.ntmps26
      go_upto_region 1 with (fail)
      have HBA : Hid (Below w.heap.size w (w.alloc (.cells #[.int .u8 v0, .int .i64 v1, .int .i64 v2] 33))) := Lib.hid ((Below.refl _ _).alloc (Nat.le_refl _) _)
      have HQ : Hid ((w.alloc (.cells #[.int .u8 v0, .int .i64 v1, .int .i64 v2] 33)).heap[w.heap.size]? = some (.cells #[.int .u8 v0, .int .i64 v1, .int .i64 v2] 33 (0, 0))) := Lib.hid (World.alloc_heap_new _ _)
      have HPX : Hid (¬ X w.heap.size) := Lib.hid (fun h => Nat.lt_irrefl _ (X4.out _ h))
      have XA : Hid (∀ j, X j → j < (w.alloc (.cells #[.int .u8 v0, .int .i64 v1, .int .i64 v2] 33)).heap.size) := Lib.hid (fun j hj => Nat.lt_of_lt_of_le (X4.out j hj) HBA.out.size)
      have HA := Lib.hid (H.out.fr (nb16 HBA.out) id (fun _ _ => id) (fun _ _ => id) (fun _ _ => id))
      obtain ⟨wa, hwa⟩ : ∃ wa, w.alloc (.cells #[.int .u8 v0, .int .i64 v1, .int .i64 v2] 33) = wa := ⟨_, rfl⟩
      rw [hwa] at HBA HQ XA HA ⊢
      clear hwa
      obtain ⟨P0, hP0⟩ : ∃ P0, w.heap.size = P0 := ⟨_, rfl⟩
      rw [hP0] at HQ HPX ⊢
      clear hP0
      have q0 : wa.cell? ⟨P0, 0, none⟩ = some (.int .u8 v0) := by simp [World.cell?, HQ.out]
      have q1 : wa.cell? ⟨P0, 1, none⟩ = some (.int .i64 v1) := by simp [World.cell?, HQ.out]
      have q2 : wa.cell? ⟨P0, 2, none⟩ = some (.int .i64 v2) := by simp [World.cell?, HQ.out]
      have b0 := HA.out.c0.1
      rw [HN.out] at b0
      obtain ⟨g2, hA2, ⟨a0, a1, a2⟩, hfz⟩ := val16 HA.out.rl hx
      injection hA2 with hA2
      injection hA2 with hA2
      subst hA2
      rw [HX.out] at a0 a1 a2
      dsimp only at a0 a1 a2
      have f0 := hfz (k * 3)
      have f1 := hfz (k * 3 + 1)
      have f2 := hfz (k * 3 + 2)
      clear hfz hx hx2
      have g1 : decide ((k : Int) < 0) = false := decide_eq_false (by omega)
      have g2 : decide (n ≤ k) = false := decide_eq_false (by omega)
      refine wp_region_held_drew (S := fun w' => w'.cell? ⟨B, 0, none⟩ = some (.slice (some ⟨g, 0, none⟩) n c) ∧ w'.cell? ⟨g, k * 3, none⟩ = some (.int .u8 y0) ∧ w'.cell? ⟨P0, 0, none⟩ = some (.int .u8 v0)) (by kernel_rfl) (⟨b0, a0, q0⟩) (fun hHeld => ?_)
      refine wpAnyH_take (i := 0) (v := ?_) rfl (by kernel_rfl) (by kernel_rfl) (by kernel_rfl) (fun _ _ _ h => h) (Or.inl ⟨by rfl, ?_⟩) (by assumption) ?_
      rotate_left 1
      · intro w _; go_simp; try with_reducible rfl
      try simp only [Act.put, List.getElem_toArray, List.getElem_cons_zero, List.getElem_cons_succ, List.setIfInBounds_toArray, List.set_cons_zero, List.set_cons_succ]
      refine wpAnyH_take (i := 1) (v := ?_) rfl (by kernel_rfl) (by kernel_rfl) (by kernel_rfl) (fun _ _ _ h => h) (Or.inl ⟨by rfl, ?_⟩) (by assumption) ?_
      rotate_left 1
      · intro w _; go_simp; try with_reducible rfl
      try simp only [Act.put, List.getElem_toArray, List.getElem_cons_zero, List.getElem_cons_succ, List.setIfInBounds_toArray, List.set_cons_zero, List.set_cons_succ]
      refine wpAnyH_take (i := 2) (v := ?_) rfl (by kernel_rfl) (by kernel_rfl) (by kernel_rfl) (fun _ _ _ h => h) (Or.inl ⟨by rfl, ?_⟩) (by assumption) ?_
      rotate_left 1
      · intro w _; go_simp; try with_reducible rfl
      try simp only [Act.put, List.getElem_toArray, List.getElem_cons_zero, List.getElem_cons_succ, List.setIfInBounds_toArray, List.set_cons_zero, List.set_cons_succ]
      refine wpAnyH_take (i := 3) (v := ?_) rfl (by kernel_rfl) (by kernel_rfl) (by kernel_rfl) (fun _ _ _ h => h) (Or.inl ⟨by rfl, ?_⟩) (by assumption) ?_
      rotate_left 1
      · intro w _; go_simp; try with_reducible rfl
      try simp only [Act.put, List.getElem_toArray, List.getElem_cons_zero, List.getElem_cons_succ, List.setIfInBounds_toArray, List.set_cons_zero, List.set_cons_succ]
      refine wpAnyH_take (i := 4) (v := ?_) rfl (by kernel_rfl) (by kernel_rfl) (by kernel_rfl) (fun _ _ _ h => h) (Or.inl ⟨by rfl, ?_⟩) (by assumption) ?_
      rotate_left 1
      · intro w _; go_simp; try with_reducible rfl
      try simp only [Act.put, List.getElem_toArray, List.getElem_cons_zero, List.getElem_cons_succ, List.setIfInBounds_toArray, List.set_cons_zero, List.set_cons_succ]
      refine wpAnyH_take (i := 5) (v := ?_) rfl (by kernel_rfl) (by kernel_rfl) (by kernel_rfl) (fun _ _ _ h => h) (Or.inl ⟨by rfl, ?_⟩) (by assumption) ?_
      rotate_left 1
      · intro w _; go_simp; try with_reducible rfl
      try simp only [Act.put, List.getElem_toArray, List.getElem_cons_zero, List.getElem_cons_succ, List.setIfInBounds_toArray, List.set_cons_zero, List.set_cons_succ]
      refine wpAnyH_take (i := 6) (v := ?_) rfl (by kernel_rfl) (by kernel_rfl) (by kernel_rfl) (fun _ _ _ h => h) (Or.inl ⟨by rfl, ?_⟩) (by assumption) ?_
      rotate_left 1
      · intro w _; go_simp; try with_reducible rfl
      try simp only [Act.put, List.getElem_toArray, List.getElem_cons_zero, List.getElem_cons_succ, List.setIfInBounds_toArray, List.set_cons_zero, List.set_cons_succ]
      refine wpAnyH_take (i := 7) (v := ?_) rfl (by kernel_rfl) (by kernel_rfl) (by kernel_rfl) (fun _ _ _ h => h) (Or.inl ⟨by rfl, ?_⟩) (by assumption) ?_
      rotate_left 1
      · intro w hSw; (try dsimp only at hSw); obtain ⟨s1, s2, s3⟩ := hSw; go_simp; try with_reducible rfl
      try simp only [Act.put, List.getElem_toArray, List.getElem_cons_zero, List.getElem_cons_succ, List.setIfInBounds_toArray, List.set_cons_zero, List.set_cons_succ]
      refine wpAnyH_take (i := 8) (v := ?_) rfl (by kernel_rfl) (by kernel_rfl) (by kernel_rfl) (fun _ _ _ h => h) (Or.inl ⟨by rfl, ?_⟩) (by assumption) ?_
      rotate_left 1
      · intro w _; go_simp; try with_reducible rfl
      try simp only [Act.put, List.getElem_toArray, List.getElem_cons_zero, List.getElem_cons_succ, List.setIfInBounds_toArray, List.set_cons_zero, List.set_cons_succ]
      refine wpAnyH_take (i := 9) (v := ?_) rfl (by kernel_rfl) (by kernel_rfl) (by kernel_rfl) (fun _ _ _ h => h) (Or.inl ⟨by rfl, ?_⟩) (by assumption) ?_
      rotate_left 1
      · intro w _; go_simp; try with_reducible rfl
      try simp only [Act.put, List.getElem_toArray, List.getElem_cons_zero, List.getElem_cons_succ, List.setIfInBounds_toArray, List.set_cons_zero, List.set_cons_succ]
      refine wpAnyH_take (i := 10) (v := ?_) rfl (by kernel_rfl) (by kernel_rfl) (by kernel_rfl) (fun _ _ _ h => h) (Or.inl ⟨by rfl, ?_⟩) (by assumption) ?_
      rotate_left 1
      · intro w _; go_simp; try with_reducible rfl
      try simp only [Act.put, List.getElem_toArray, List.getElem_cons_zero, List.getElem_cons_succ, List.setIfInBounds_toArray, List.set_cons_zero, List.set_cons_succ]
      refine wpAnyH_take (i := 11) (v := ?_) rfl (by kernel_rfl) (by kernel_rfl) (by kernel_rfl) (fun _ _ _ h => h) (Or.inl ⟨by rfl, ?_⟩) (by assumption) ?_
      rotate_left 1
      · intro w _; go_simp; try with_reducible rfl
      try simp only [Act.put, List.getElem_toArray, List.getElem_cons_zero, List.getElem_cons_succ, List.setIfInBounds_toArray, List.set_cons_zero, List.set_cons_succ]
      refine wpAnyH_take (i := 12) (v := ?_) rfl (by kernel_rfl) (by kernel_rfl) (by kernel_rfl) (fun _ _ _ h => h) (Or.inl ⟨by rfl, ?_⟩) (by assumption) ?_
      rotate_left 1
      · intro w _; go_simp; try with_reducible rfl
      try simp only [Act.put, List.getElem_toArray, List.getElem_cons_zero, List.getElem_cons_succ, List.setIfInBounds_toArray, List.set_cons_zero, List.set_cons_succ]
      refine wpAnyH_take (i := 13) (v := ?_) rfl (by kernel_rfl) (by kernel_rfl) (by kernel_rfl) (fun _ _ _ h => h) (Or.inl ⟨by rfl, ?_⟩) (by assumption) ?_
      rotate_left 1
      · intro w _; go_simp; try with_reducible rfl
      try simp only [Act.put, List.getElem_toArray, List.getElem_cons_zero, List.getElem_cons_succ, List.setIfInBounds_toArray, List.set_cons_zero, List.set_cons_succ]
      refine wpAnyH_take (i := 14) (v := ?_) rfl (by kernel_rfl) (by kernel_rfl) (by kernel_rfl) (fun _ _ _ h => h) (Or.inl ⟨by rfl, ?_⟩) (by assumption) ?_
      rotate_left 1
      · intro w _; go_simp; try with_reducible rfl
      try simp only [Act.put, List.getElem_toArray, List.getElem_cons_zero, List.getElem_cons_succ, List.setIfInBounds_toArray, List.set_cons_zero, List.set_cons_succ]
      refine wpAnyH_take (i := 15) (v := ?_) rfl (by kernel_rfl) (by kernel_rfl) (by kernel_rfl) (fun _ _ _ h => h) (Or.inl ⟨by rfl, ?_⟩) (by assumption) ?_
      rotate_left 1
      · intro w hSw; (try dsimp only at hSw); obtain ⟨s1, s2, s3⟩ := hSw; go_simp; try with_reducible rfl
      try simp only [Act.put, List.getElem_toArray, List.getElem_cons_zero, List.getElem_cons_succ, List.setIfInBounds_toArray, List.set_cons_zero, List.set_cons_succ]
      refine wpAnyH_take (i := 16) (v := ?_) rfl (by kernel_rfl) (by kernel_rfl) (by kernel_rfl) (fun _ _ _ h => h) (Or.inl ⟨by rfl, ?_⟩) (by assumption) ?_
      rotate_left 1
      · intro w _; go_simp; try with_reducible rfl
      try simp only [Act.put, List.getElem_toArray, List.getElem_cons_zero, List.getElem_cons_succ, List.setIfInBounds_toArray, List.set_cons_zero, List.set_cons_succ]
      refine wpAnyH_take (i := 17) (v := ?_) rfl (by kernel_rfl) (by kernel_rfl) (by kernel_rfl) (fun _ _ _ h => h) (Or.inl ⟨by rfl, ?_⟩) (by assumption) ?_
      rotate_left 1
      · intro w _; go_simp; try with_reducible rfl
      try simp only [Act.put, List.getElem_toArray, List.getElem_cons_zero, List.getElem_cons_succ, List.setIfInBounds_toArray, List.set_cons_zero, List.set_cons_succ]
      refine wpAnyH_take (i := 18) (v := ?_) rfl (by kernel_rfl) (by kernel_rfl) (by kernel_rfl) (fun _ _ _ h => h) (Or.inl ⟨by rfl, ?_⟩) (by assumption) ?_
      rotate_left 1
      · intro w _; go_simp; try with_reducible rfl
      try simp only [Act.put, List.getElem_toArray, List.getElem_cons_zero, List.getElem_cons_succ, List.setIfInBounds_toArray, List.set_cons_zero, List.set_cons_succ]
      refine wpAnyH_take (i := 19) (v := ?_) rfl (by kernel_rfl) (by kernel_rfl) (by kernel_rfl) (fun _ _ _ h => h) (Or.inl ⟨by rfl, ?_⟩) (by assumption) ?_
      rotate_left 1
      · intro w hSw; (try dsimp only at hSw); obtain ⟨s1, s2, s3⟩ := hSw; go_simp; try with_reducible rfl
      try simp only [Act.put, List.getElem_toArray, List.getElem_cons_zero, List.getElem_cons_succ, List.setIfInBounds_toArray, List.set_cons_zero, List.set_cons_succ]
      refine wpAnyH_take (i := 20) (v := ?_) rfl (by kernel_rfl) (by kernel_rfl) (by kernel_rfl) (fun _ _ _ h => h) (Or.inl ⟨by rfl, ?_⟩) (by assumption) ?_
      rotate_left 1
      · intro w _; go_simp; try with_reducible rfl
      try simp only [Act.put, List.getElem_toArray, List.getElem_cons_zero, List.getElem_cons_succ, List.setIfInBounds_toArray, List.set_cons_zero, List.set_cons_succ]
      refine wpAnyH_take (i := 21) (v := ?_) rfl (by kernel_rfl) (by kernel_rfl) (by kernel_rfl) (fun _ _ _ h => h) (Or.inl ⟨by rfl, ?_⟩) (by assumption) ?_
      rotate_left 1
      · intro w hSw; (try dsimp only at hSw); obtain ⟨s1, s2, s3⟩ := hSw; go_simp; try with_reducible rfl
      try simp only [Act.put, List.getElem_toArray, List.getElem_cons_zero, List.getElem_cons_succ, List.setIfInBounds_toArray, List.set_cons_zero, List.set_cons_succ]
      refine wpAnyH_take (i := 22) (v := ?_) rfl (by kernel_rfl) (by kernel_rfl) (by kernel_rfl) (fun _ _ _ h => h) (Or.inl ⟨by rfl, ?_⟩) (by assumption) ?_
      rotate_left 1
      · intro w _; go_simp; try with_reducible rfl
      try simp only [Act.put, List.getElem_toArray, List.getElem_cons_zero, List.getElem_cons_succ, List.setIfInBounds_toArray, List.set_cons_zero, List.set_cons_succ]
      refine wpAnyH_take (i := 23) (v := ?_) rfl (by kernel_rfl) (by kernel_rfl) (by kernel_rfl) (fun _ _ _ h => h) (Or.inl ⟨by rfl, ?_⟩) (by assumption) ?_
      rotate_left 1
      · intro w _; go_simp; try with_reducible rfl
      try simp only [Act.put, List.getElem_toArray, List.getElem_cons_zero, List.getElem_cons_succ, List.setIfInBounds_toArray, List.set_cons_zero, List.set_cons_succ]
      refine wpAnyH_done (by kernel_rfl) ?_ _
      clear hHeld
      go_wp2_with fail
      go_ret
      rw [HS.out, HF.out]
      exact ⟨rfl, H0.out.keep (below_draws HBA.out _), (Fr11.of_below (X := X) HBA.out (fun j h1 h2 => by omega)).drewN _⟩
  | false =>
    have HS : Hid (sB16 f i (v0, v1, v2) = false) := Lib.hid (by rw [sB16, hg]; rfl)
    have HF : Hid (sF16 f i (v0, v1, v2) = f) := Lib.hid (by rw [sF16, if_neg (by rw [HS.out]; decide)])
    simp only [gB16, Bool.and_eq_false_iff, decide_eq_false_iff_not, HN.out] at hg
    have HI := Lib.hid hg
    clear hg
    by_cases h1 : i < 0
    · go_enter Try.func26, Try.ntmps26
      go_upto_region 1 with (fail)
      go_quiet (fail)
      go_wp2_with fail
      go_ret
      rw [HS.out, HF.out]
      exact ⟨rfl, H0.out.keep (below_draws ((Below.refl _ _).alloc (Nat.le_refl _) _) _), ((Fr11.refl _ _).alloc _).drewN _⟩
    · have h2 : (n : Int) ≤ i := by have := HI.out; omega
      go_enter Try.func26, Try.ntmps26
      go_upto_region 1 with (fail)
      go_quiet (fail)
      go_wp2_with fail
      go_ret
      rw [HS.out, HF.out]
      exact ⟨rfl, H0.out.keep (below_draws ((Below.refl _ _).alloc (Nat.le_refl _) _) _), ((Fr11.refl _ _).alloc _).drewN _⟩
set_option maxHeartbeats 4000000 in
theorem rpush_v (X : Nat → Prop) (B : Nat) (f : Fm) (v0 v1 v2 : Int) (w : World) (h : Rf16 X w B f) (hv : VlOk (v0, v1, v2)) :
    Calls Try.prog 27 #[.pointer (some ⟨B, 0, none⟩), .agg #[.int .u8 v0, .int .i64 v1, .int .i64 v2]] w fun e w' => e = .returned (.bool (pB16 f (v0, v1, v2))) ∧ ∃ X', Rf16 X' w' B (pF16 f (v0, v1, v2)) ∧ Fr11 X w w' ∧ ∀ j, X' j → X j ∨ w.heap.size ≤ j := by
  have H0 := Lib.hid h
  obtain ⟨A, A2, A3, c, c2, c3, T, h, x0, x1, x2, x3, x4⟩ := h
  have hm := h.many
  have H := Lib.hid h
  have X1 := Lib.hid x1
  have X2 := Lib.hid x2
  have X3 := Lib.hid x3
  have X4 := Lib.hid x4
  have HV := Lib.hid hv
  have HK := fun w => Lib.hid (rkind_v v0 w)
  clear h x1 x2 x3 x4 hv
  go_enter Try.func27, Try.ntmps27
  go_upto_region 1 with (fail)
  have HBA : Hid (Below w.heap.size w (w.alloc (.cells #[.int .u8 v0, .int .i64 v1, .int .i64 v2] 33))) := Lib.hid ((Below.refl _ _).alloc (Nat.le_refl _) _)
  have HQ : Hid ((w.alloc (.cells #[.int .u8 v0, .int .i64 v1, .int .i64 v2] 33)).heap[w.heap.size]? = some (.cells #[.int .u8 v0, .int .i64 v1, .int .i64 v2] 33 (0, 0))) := Lib.hid (World.alloc_heap_new _ _)
  have HPX : Hid (¬ X w.heap.size) := Lib.hid (fun h => Nat.lt_irrefl _ (X4.out _ h))
  have XA : Hid (∀ j, X j → j < (w.alloc (.cells #[.int .u8 v0, .int .i64 v1, .int .i64 v2] 33)).heap.size) := Lib.hid (fun j hj => Nat.lt_of_lt_of_le (X4.out j hj) HBA.out.size)
  have HA := Lib.hid (H.out.fr (nb16 HBA.out) id (fun _ _ => id) (fun _ _ => id) (fun _ _ => id))
  obtain ⟨wa, hwa⟩ : ∃ wa, w.alloc (.cells #[.int .u8 v0, .int .i64 v1, .int .i64 v2] 33) = wa := ⟨_, rfl⟩
  rw [hwa] at HBA HQ XA HA ⊢
  clear hwa
  have hws := HBA.out.size
  obtain ⟨P0, hP0⟩ : ∃ P0, w.heap.size = P0 := ⟨_, rfl⟩
  have HP0 := Lib.hid hP0
  rw [hP0] at HQ HPX ⊢
  clear hP0 hws
  have q0 : wa.cell? ⟨P0, 0, none⟩ = some (.int .u8 v0) := by simp [World.cell?, HQ.out]
  have q1 : wa.cell? ⟨P0, 1, none⟩ = some (.int .i64 v1) := by simp [World.cell?, HQ.out]
  have q2 : wa.cell? ⟨P0, 2, none⟩ = some (.int .i64 v2) := by simp [World.cell?, HQ.out]
  have HSZ := Lib.hid (rsize_v X B f wa ⟨A, A2, A3, c, c2, c3, T, HA.out, x0, X1.out, X2.out, X3.out, XA.out⟩)
  cases hkd : kd16 v0 with
  | false =>
    have HS : Hid (pB16 f (v0, v1, v2) = false) := Lib.hid (by rw [pB16, hkd]; rfl)
    have HF : Hid (pF16 f (v0, v1, v2) = f) := Lib.hid (by rw [pF16, if_neg (by rw [HS.out]; decide)])
    have HK := HK wa
    rw [hkd] at HK
    clear hkd
    go_wp2_with fail
    refine HK.out.mono ?_
    rintro e w1 ⟨rfl, rfl⟩
    go_wp2_with fail
    go_ret
    rw [HS.out, HF.out]
    exact ⟨rfl, X, H0.out.keep HBA.out, Fr11.of_below (X := X) HBA.out (fun j h1 h2 => by omega), fun _ => .inl⟩
  | true =>
    have HKD := Lib.hid hkd
    have HK := HK wa
    rw [hkd] at HK
    clear hkd
    go_wp2_with fail
    refine HK.out.mono ?_
    rintro e w1 ⟨rfl, rfl⟩
    obtain ⟨nn, hnn⟩ : ∃ nn, n16 f = nn := ⟨_, rfl⟩
    rw [hnn] at HSZ hm
    have HNN := Lib.hid hnn
    clear hnn
    go_wp2_with fail
    refine HSZ.out.mono ?_
    rintro e w2 ⟨rfl, hb⟩
    have HBW := Lib.hid (HBA.out.trans (hb.mono HBA.out.size))
    have HX4 : Hid (∀ j, X j → j < w2.heap.size) := Lib.hid (fun j hj => Nat.lt_of_lt_of_le (XA.out j hj) hb.size)
    have HA2 := Lib.hid (HA.out.fr (nb16 hb) id (fun _ _ => id) (fun _ _ => id) (fun _ _ => id))
    have K := fun {p : Addr} {u : Value} (h : w1.cell? p = some u) => (hb.cell (cell_lt h)).trans h
    have q0 := K q0
    have q1 := K q1
    have q2 := K q2
    clear K hb HSZ HA HBA HQ XA
    rename Hid (∀ j, X j → j < w2.heap.size) => X4
    rename_i X4'
    by_cases hlt : 256 ≤ nn
    · have HS : Hid (pB16 f (v0, v1, v2) = false) := Lib.hid (by rw [pB16, HNN.out, decide_eq_false (by omega), Bool.and_false])
      have HF : Hid (pF16 f (v0, v1, v2) = f) := Lib.hid (by rw [pF16, if_neg (by rw [HS.out]; decide)])
      go_wp2_with fail
      go_ret
      rw [HS.out, HF.out]
      exact ⟨rfl, X, H0.out.keep HBW.out, Fr11.of_below (X := X) HBW.out (fun j h1 h2 => by omega), fun _ => .inl⟩
    · have HS : Hid (pB16 f (v0, v1, v2) = true) := Lib.hid (by rw [pB16, HNN.out, HKD.out, decide_eq_true (by omega)]; rfl)
      have HF : Hid (pF16 f (v0, v1, v2) = { f with s := f.s ++ [(v0, v1, v2)] }) := Lib.hid (by rw [pF16, if_pos HS.out])
      obtain ⟨n, hn⟩ : ∃ n, f.s.length = n := ⟨_, rfl⟩
      have b1 := HA2.out.c0.2.1
      rw [hn] at b1
      have HN := Lib.hid hn
      have HLT : Hid (f.l.length + (n + 1) ≤ 256) := Lib.hid (by have h1 := HNN.out; unfold n16 at h1; omega)
      have hn9 : n ≤ 256 := by have := HLT.out; omega
      clear hn
      go_upto_region 3 with (fail)
      refine wp_region_L [10] (S := fun w' => w'.cell? ⟨B, 1, none⟩ = some (.slice A2 n c2) ∧ w'.cell? ⟨P0, 0, none⟩ = some (.int .u8 v0) ∧ w'.cell? ⟨P0, 1, none⟩ = some (.int .i64 v1) ∧ w'.cell? ⟨P0, 2, none⟩ = some (.int .i64 v2)) (by kernel_rfl) (⟨b1, q0, q1, q2⟩) (fun hHeld => ?_)
      refine wpL_reckon (i := 0) (v := ?_) rfl (by kernel_rfl) (fun _ _ _ h => h) (Or.inl ⟨by rfl, ?_⟩) (Or.inr (by assumption)) ?_
      rotate_left 1
      · intro w _; go_simp; try with_reducible rfl
      try simp only [Act.put, List.getElem_toArray, List.getElem_cons_zero, List.getElem_cons_succ, List.setIfInBounds_toArray, List.set_cons_zero, List.set_cons_succ]
      refine wpL_reckon (i := 1) (v := ?_) rfl (by kernel_rfl) (fun _ _ _ h => h) (Or.inl ⟨by rfl, ?_⟩) (Or.inr (by assumption)) ?_
      rotate_left 1
      · intro w _; go_simp; try with_reducible rfl
      try simp only [Act.put, List.getElem_toArray, List.getElem_cons_zero, List.getElem_cons_succ, List.setIfInBounds_toArray, List.set_cons_zero, List.set_cons_succ]
      refine wpL_reckon (i := 2) (v := ?_) rfl (by kernel_rfl) (fun _ _ _ h => h) (Or.inl ⟨by rfl, ?_⟩) (Or.inr (by assumption)) ?_
      rotate_left 1
      · intro w _; go_simp; try with_reducible rfl
      try simp only [Act.put, List.getElem_toArray, List.getElem_cons_zero, List.getElem_cons_succ, List.setIfInBounds_toArray, List.set_cons_zero, List.set_cons_succ]
      refine wpL_reckon (i := 3) (v := ?_) rfl (by kernel_rfl) (fun _ _ _ h => h) (Or.inl ⟨by rfl, ?_⟩) (Or.inr (by assumption)) ?_
      rotate_left 1
      · intro w _; go_simp; try with_reducible rfl
      try simp only [Act.put, List.getElem_toArray, List.getElem_cons_zero, List.getElem_cons_succ, List.setIfInBounds_toArray, List.set_cons_zero, List.set_cons_succ]
      refine wpL_take (i := 4) (v := ?_) rfl (by kernel_rfl) (fun _ _ _ h => h) (Or.inl ⟨by rfl, ?_⟩) (by assumption) ?_
      rotate_left 1
      · intro w hSw; (try dsimp only at hSw); obtain ⟨s1, s2, s3, s4⟩ := hSw; go_simp; try with_reducible rfl
      try simp only [Act.put, List.getElem_toArray, List.getElem_cons_zero, List.getElem_cons_succ, List.setIfInBounds_toArray, List.set_cons_zero, List.set_cons_succ]
      refine wpL_take (i := 5) (v := ?_) rfl (by kernel_rfl) (fun _ _ _ h => h) (Or.inl ⟨by rfl, ?_⟩) (by assumption) ?_
      rotate_left 1
      · intro w hSw; (try dsimp only at hSw); obtain ⟨s1, s2, s3, s4⟩ := hSw; go_simp; try with_reducible rfl
      try simp only [Act.put, List.getElem_toArray, List.getElem_cons_zero, List.getElem_cons_succ, List.setIfInBounds_toArray, List.set_cons_zero, List.set_cons_succ]
      refine wpL_ready (rs := [6]) (by kernel_rfl) (by simp) ?_
      refine AllL.cons rfl (fun K hK => ?_) AllL.nil
      go_simp
      have HF2 : Hid (Fr11 (fun _ => False) w2 (w2.alloc (.cells #[.int .u8 v0, .int .i64 v1, .int .i64 v2] 33)).drew) := Lib.hid (((Fr11.refl _ _).alloc _).drewN 1)
      have HR2 := Lib.hid (rv_new w2 (v0, v1, v2) HV.out)
      have K2 := fun {p : Addr} {u : Value} (h : w2.cell? p = some u) => (World.cell?_of_block (HF2.out.block p.block (cell_lt h) id)).trans h
      have b1b := K2 b1
      have q0b := K2 q0
      have q1b := K2 q1
      have q2b := K2 q2
      change Hid (Rv (w2.alloc (.cells #[.int .u8 v0, .int .i64 v1, .int .i64 v2] 33)).drew _ _ _) at HR2
      have HS2 : Hid (w2.heap.size ≤ (w2.alloc (.cells #[.int .u8 v0, .int .i64 v1, .int .i64 v2] 33)).drew.heap.size) := Lib.hid HF2.out.size
      clear K2
      generalize (w2.alloc (.cells #[.int .u8 v0, .int .i64 v1, .int .i64 v2] 33)).drew = wb at HF2 HR2 b1b q0b q1b q2b HS2 ⊢
      generalize w2.heap.size = P2 at HR2 ⊢
      refine hK.out _ _ (⟨b1b, q0b, q1b, q2b⟩) (fun hHeld => ?_)
      clear hK K
      try simp only [Act.put, List.getElem_toArray, List.getElem_cons_zero, List.getElem_cons_succ, List.setIfInBounds_toArray, List.set_cons_zero, List.set_cons_succ]
      refine wpL_ready (rs := [7]) (by kernel_rfl) (by simp) ?_
      refine AllL.cons rfl (fun K hK => ?_) AllL.nil
      have HO2 := Lib.hid (own_fr16 HA2.out.rs HF2.out (fun _ _ => id))
      rw [HN.out] at HO2
      refine step_append_rvgb rfl (.tmp 18) (.tmp 20) rfl (.slice A2 n c2) n f.s rfl HO2.out ⟨P2, 0, none⟩ 1 1 [(v0, v1, v2)] rfl HR2.out (by omega) rfl (by omega) ?_
      intro A9 c9 w9 ho9 hg9 hb9
      rw [← HN.out] at hg9
      have hf9 : Fr11 (fun j => some j = (Value.slice A2 f.s.length c2).ownBlock) w2 w9 := (HF2.out.mono fun _ => False.elim).trans (Fr11.of_grown (X := fun j => some j = (Value.slice A2 f.s.length c2).ownBlock) hg9 fun j hj => hj) fun _ _ => id
      obtain ⟨hB9, hend⟩ := rf16_stack (s' := f.s ++ [(v0, v1, v2)]) (by rw [List.length_append, HN.out]; rfl) (by
        intro y hy
        rw [← List.append_assoc] at hy
        rcases List.mem_append.1 hy with hy | hy
        · exact HA2.out.ok y hy
        · rw [List.mem_singleton.1 hy]; exact HV.out) (by rw [List.length_append, HN.out]; exact HLT.out) HA2.out x0 X1.out X2.out X3.out X4.out hf9 ho9 (hb16 (hb9.imp (fun h => h.trans (by rw [HN.out])) fun h => ⟨_, HS2.out, h⟩))
      have HEND := Lib.hid hend
      have b1c : w9.cell? ⟨B, 1, none⟩ = some (.slice A2 n c2) := by simp [World.cell?, hB9, HN.out]
      have hz9 : w9.frozen? ⟨B, 1, none⟩ = false := frozen_of_row w9 B 1 _ _ hB9
      have K9 := fun {p : Addr} {u : Value} (hne : ¬ X p.block) (h : wb.cell? p = some u) => (World.cell?_of_block (hg9.block p.block (cell_lt h) (fun e => hne (by
        have e2 : some p.block = (Value.slice A2 f.s.length c2).ownBlock := e
        cases hA2 : A2 with
        | none => rw [hA2] at e2; simp [Value.ownBlock] at e2
        | some a => rw [hA2] at e2; have e3 : p.block = a.block := by { simpa [Value.ownBlock] using e2 }; rw [e3]; exact X2.out a hA2)))).trans h
      have q0c := K9 HPX.out q0b
      have q1c := K9 HPX.out q1b
      have q2c := K9 HPX.out q2b
      clear K9 HF2 HR2 HO2 b1b q0b q1b q2b ho9 hg9 hb9 hf9 hB9 hend HS2
      refine hK.out _ _ (⟨b1c, q0c, q1c, q2c⟩) (fun hHeld => ?_)
      clear hK K
      try simp only [Act.put, List.getElem_toArray, List.getElem_cons_zero, List.getElem_cons_succ, List.setIfInBounds_toArray, List.set_cons_zero, List.set_cons_succ]
      refine wpL_reckon (i := 8) (v := ?_) rfl (by kernel_rfl) (fun _ _ _ h => h) (Or.inl ⟨by rfl, ?_⟩) (Or.inr (by assumption)) ?_
      rotate_left 1
      · intro w _; go_simp; try with_reducible rfl
      try simp only [Act.put, List.getElem_toArray, List.getElem_cons_zero, List.getElem_cons_succ, List.setIfInBounds_toArray, List.set_cons_zero, List.set_cons_succ]
      refine wpL_reckon (i := 9) (v := ?_) rfl (by kernel_rfl) (fun _ _ _ h => h) (Or.inl ⟨by rfl, ?_⟩) (Or.inr (by assumption)) ?_
      rotate_left 1
      · intro w _; go_simp; try with_reducible rfl
      try simp only [Act.put, List.getElem_toArray, List.getElem_cons_zero, List.getElem_cons_succ, List.setIfInBounds_toArray, List.set_cons_zero, List.set_cons_succ]
      refine wpL_ready (rs := [10]) (by kernel_rfl) (by simp) ?_
      refine AllL.late rfl (by kernel_rfl) (fun K hK => ?_) AllL.nil
      go_simp
      refine hK.out _ _ ?_
      clear hK K
      try simp only [Act.put, List.getElem_toArray, List.getElem_cons_zero, List.getElem_cons_succ, List.setIfInBounds_toArray, List.set_cons_zero, List.set_cons_succ]
      refine wpL_done (by kernel_rfl) ?_ _
      go_wp2_with fail
      go_ret
      rw [HS.out, HF.out]
      obtain ⟨X', e1, e2, e3⟩ := HEND.out
      exact ⟨rfl, X', e1, (Fr11.of_below (X := X) HBW.out (fun j h1 h2 => by omega)).trans e2 (fun _ _ => id), fun j hj => (e3 j hj).imp id (fun h => Nat.le_trans HBW.out.size h)⟩
end Go.Proofs.Ytkifapnmojfjoaa
