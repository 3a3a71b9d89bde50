/-
  Layer 16: the reference's Pop.
-/
import Derived.Test.YtkifapnmojfjoaaUc
namespace Go.Proofs.Ytkifapnmojfjoaa
open Go.RowKit
set_option maxRecDepth 100000
set_option linter.unusedSimpArgs false
set_option linter.unusedVariables false

theorem oB16_no {f : Fm} {k : Int} (h : oB16 f k = false) : oV16 f k = z16 ∧ oF16 f k = f := by
  rw [oV16, oF16, if_neg (by rw [h]; decide), if_neg (by rw [h]; decide)]
  exact ⟨rfl, rfl⟩
theorem cut16 (g c m : Nat) (hm : m ≤ c) (wx : World) : (Instr.slice 23 (.slice (some ⟨g, 0, none⟩) (m + 1) c) none (some (.int .i64 (m : Int))) none).run Try.prog wx = .ok (.slice (some ⟨g, 0, none⟩) m c) wx := by
  have := run_slice_h (P := Try.prog) wx 23 (some ⟨g, 0, none⟩) (m + 1) c Try.underlying23 .i64 (m : Int) (by omega) (by omega)
  have hsz : (sizeOf (Try.prog.elem 23)).run Try.prog wx = .ok 3 wx := by kernel_rfl
  rw [this, hsz]
  simp [Result.andThen, sliced, Addr.add]
theorem Rv.fr16 {w w' : World} {Y : Nat → Prop} {A : Option Addr} {c : Nat} {L : List Vlu} (h : Rv w A c L) (hf : Fr11 Y w w') (hx : ∀ a, A = some a → ¬ Y a.block) : Rv w' A c L := by
  refine ⟨h.1, h.2.1, h.2.2.1, ?_⟩
  rcases h.2.2.2 with hn | ⟨ad, ha, hc⟩
  · exact .inl hn
  · refine .inr ⟨ad, ha, fun i x hi => ?_⟩
    have hb : ∀ k, (ad.add k).block = ad.block := fun k => by unfold Addr.add; split <;> rfl
    obtain ⟨h1, h2, h3⟩ := hc i x hi
    have K := fun {p : Addr} {u : Value} (hp : p.block = ad.block) (h : w.cell? p = some u) => (World.cell?_of_block (a := p) (hf.block p.block (cell_lt h) (by rw [hp]; exact hx ad ha))).trans h
    exact ⟨K (hb _) h1, K (by simp only [hb]) h2, K (by simp only [hb]) h3⟩
theorem Rv.dropLast {w : World} {A : Option Addr} {c : Nat} {L : List Vlu} (h : Rv w A c L) : Rv w A c L.dropLast := by
  refine ⟨fun x hx => h.1 x (List.dropLast_subset _ hx), by rw [List.length_dropLast]; have := h.2.1; omega, h.2.2.1, ?_⟩
  rcases h.2.2.2 with hn | ⟨ad, ha, hc⟩
  · exact .inl hn
  · refine .inr ⟨ad, ha, fun i x hi => hc i x ?_⟩
    rw [List.getElem?_dropLast] at hi
    split at hi
    · exact hi
    · cases hi
theorem box16 {w : World} {P : Nat} {a b c u0 u1 u2 : Value} (h : w.heap[P]? = some (.cells #[a, b, c] 33 (0, 0))) : (((w.setCell ⟨P, 0, none⟩ u0).setCell ⟨P, 1, none⟩ u1).setCell ⟨P, 2, none⟩ u2).heap[P]? = some (.cells #[u0, u1, u2] 33 (0, 0)) := by
  rw [heap_setCell_same _ _ 2 _ _ _ (heap_setCell_same _ _ 1 _ _ _ (heap_setCell_same w P 0 _ _ _ h))]
  rfl
theorem ret16 (tm : Array Value) (W : World) (P : Nat) (x : Vlu) (b : Bool) (R : Ending → World → Prop) (h4 : tm[4]?.getD undef = .pointer (some ⟨P, 0, none⟩)) (h5 : tm[5]?.getD undef = .bool b) (hW : W.heap[P]? = some (.cells #[.int .u8 x.1, .int .i64 x.2.1, .int .i64 x.2.2] 33 (0, 0)))
    (hR : R (.returned (.tuple #[va16 x, .bool b])) W) : bodyPost Try.prog Try.f28 R .ret { tmps := tm, defers := [] } W := by
  have c0 : W.cell? ⟨P, 0, none⟩ = some (.int .u8 x.1) := by simp [World.cell?, hW]
  have c1 : W.cell? ⟨P, 1, none⟩ = some (.int .i64 x.2.1) := by simp [World.cell?, hW]
  have c2 : W.cell? ⟨P, 2, none⟩ = some (.int .i64 x.2.2) := by simp [World.cell?, hW]
  refine bodyPost_ret (v := .tuple #[.agg #[.int .u8 x.1, .int .i64 x.2.1, .int .i64 x.2.2], .bool b]) ?_ rfl hR
  simp [results, Try.results28, go_sem, h4, h5, c0, c1, c2]
set_option maxHeartbeats 4000000 in
theorem rpop_v (X : Nat → Prop) (B : Nat) (f : Fm) (k : Int) (w : World) (h : Rf16 X w B f) :
    Calls Try.prog 28 #[.pointer (some ⟨B, 0, none⟩), .int .u8 k] w fun e w' => e = .returned (.tuple #[va16 (oV16 f k), .bool (oB16 f k)]) ∧ ∃ X', Rf16 X' w' B (oF16 f k) ∧ Fr11 X w w' ∧ ∀ j, X' j → X j ∨ w.heap.size ≤ j := by
  have H0 := Lib.hid h
  obtain ⟨A, A2, A3, c, c2, c3, T, h, x0, x1, x2, x3, x4⟩ := h
  have hm := h.many
  have H := Lib.hid h
  have X1 := Lib.hid x1
  have X2 := Lib.hid x2
  have X3 := Lib.hid x3
  have X4 := Lib.hid x4
  have HT := Lib.hid (rtop_v X B f (w.alloc (.cells #[.int .u8 0, .int .i64 0, .int .i64 0] 33)) (H0.out.keep ((Below.refl _ _).alloc (Nat.le_refl _) _)))
  clear h x1 x2 x3 x4
  go_enter Try.func28, Try.ntmps28
  go_wp2_with fail
  refine HT.out.mono ?_
  rintro e w1 ⟨rfl, hb⟩
  have HB1 : Hid (Below w.heap.size w w1) := Lib.hid (((Below.refl _ _).alloc (Nat.le_refl _) _).trans (hb.mono (by simp)))
  have HP : Hid (w1.heap[w.heap.size]? = some (.cells #[.int .u8 0, .int .i64 0, .int .i64 0] 33 (0, 0))) := Lib.hid ((hb.block _ (by simp)).trans (World.alloc_heap_new _ _))
  have hl1 : w.heap.size < w1.heap.size := (Array.getElem?_eq_some_iff.1 HP.out).1
  clear hb HT
  obtain ⟨⟨t0, t1, t2⟩, ht⟩ : ∃ t, tV16 f = t := ⟨_, rfl⟩
  have HTV := Lib.hid ht
  rw [ht]
  unfold va16
  dsimp only
  clear ht
  have HPX : Hid (¬ X w.heap.size) := Lib.hid (fun h => Nat.lt_irrefl _ (X4.out _ h))
  have HPX1 : Hid (¬ X w1.heap.size) := Lib.hid (fun h => Nat.lt_irrefl _ (Nat.lt_of_lt_of_le (X4.out _ h) HB1.out.size))
  obtain ⟨P0, hP0⟩ : ∃ P0, w.heap.size = P0 := ⟨_, rfl⟩
  have HP0 := Lib.hid hP0
  rw [hP0] at HP HPX hl1 ⊢
  clear hP0
  have p0 : w1.cell? ⟨P0, 0, none⟩ = some (.int .u8 0) := by simp [World.cell?, HP.out]
  have p1 : w1.cell? ⟨P0, 1, none⟩ = some (.int .i64 0) := by simp [World.cell?, HP.out]
  have p2 : w1.cell? ⟨P0, 2, none⟩ = some (.int .i64 0) := by simp [World.cell?, HP.out]
  have r0 : w1.frozen? ⟨P0, 0, none⟩ = false := frozen_of_row w1 P0 0 _ _ HP.out
  have r1 : w1.frozen? ⟨P0, 1, none⟩ = false := frozen_of_row w1 P0 1 _ _ HP.out
  have r2 : w1.frozen? ⟨P0, 2, none⟩ = false := frozen_of_row w1 P0 2 _ _ HP.out
  have HFIN : Hid (∀ (u0 u1 u2 : Value) (o : Obj), Below w.heap.size w ((((w1.setCell ⟨P0, 0, none⟩ u0).setCell ⟨P0, 1, none⟩ u1).setCell ⟨P0, 2, none⟩ u2).alloc o)) := Lib.hid (fun u0 u1 u2 o =>
    (((HB1.out.setCell (p := ⟨P0, 0, none⟩) (Nat.le_of_eq HP0.out) u0).setCell (p := ⟨P0, 1, none⟩) (Nat.le_of_eq HP0.out) u1).setCell (p := ⟨P0, 2, none⟩) (Nat.le_of_eq HP0.out) u2).alloc (by have := HB1.out.size; simp; omega) o)
  cases htb : tB16 f with
  | false =>
    have HO : Hid (oB16 f k = false) := Lib.hid (by rw [oB16, htb]; rfl)
    clear htb
    go_wp2_with fail
    refine ret16 _ _ P0 z16 false _ rfl rfl ((Below.heap_alloc _ _ _ (by simpa using hl1)).trans (box16 HP.out)) ?_
    rw [(oB16_no HO.out).1, (oB16_no HO.out).2, HO.out]
    exact ⟨rfl, X, H0.out.keep (HFIN.out _ _ _ _), Fr11.of_below (X := X) (HFIN.out _ _ _ _) (fun j h1 h2 => by omega), fun _ => .inl⟩
  | true =>
    have HTB := Lib.hid htb
    by_cases hk : k = 0 ∨ k = t0
    · have HO : Hid (oB16 f k = true) := Lib.hid (by
        rw [oB16, htb, HTV.out]
        rcases hk with rfl | rfl <;> simp)
      have HOV : Hid (oV16 f k = (t0, t1, t2)) := Lib.hid (by rw [oV16, if_pos HO.out, HTV.out])
      have HOF : Hid (oF16 f k = { f with s := f.s.dropLast }) := Lib.hid (by rw [oF16, if_pos HO.out])
      have hlen := htb
      rw [tB16, decide_eq_true_eq] at hlen
      obtain ⟨m, hn⟩ : ∃ m, f.s.length = m + 1 := ⟨f.s.length - 1, by omega⟩
      have HN := Lib.hid hn
      have HLM : Hid (f.l.length + (m + 1) ≤ 256) := Lib.hid (by have := hm; unfold n16 at this; omega)
      have hm9 : m ≤ 256 := by have := HLM.out; omega
      clear htb hlen hn hm
      have hkk : k = 0 ∨ (¬ k = 0 ∧ k = t0) := by omega
      have HKK := Lib.hid hkk
      clear hk hkk
      have hg0 := tV16_at HTB.out
      obtain ⟨g, hA, -, -⟩ := val16 H.out.rs hg0
      subst hA
      clear hg0
      by_cases hk0 : k = 0
      · subst hk0
        go_upto_region 4 with (fail)
        have HBA : Hid (Below w.heap.size w (w1.alloc (.cells #[.int .u8 t0, .int .i64 t1, .int .i64 t2] 33))) := Lib.hid (HB1.out.alloc HB1.out.size _)
        have HQ1 : Hid ((w1.alloc (.cells #[.int .u8 t0, .int .i64 t1, .int .i64 t2] 33)).heap[w1.heap.size]? = some (.cells #[.int .u8 t0, .int .i64 t1, .int .i64 t2] 33 (0, 0))) := Lib.hid (World.alloc_heap_new _ _)
        have HQ0 : Hid ((w1.alloc (.cells #[.int .u8 t0, .int .i64 t1, .int .i64 t2] 33)).heap[P0]? = some (.cells #[.int .u8 0, .int .i64 0, .int .i64 0] 33 (0, 0))) := Lib.hid ((Below.heap_alloc _ _ _ hl1).trans HP.out)
        have HNE : Hid (P0 ≠ w1.heap.size) := Lib.hid (by omega)
        have HAA := Lib.hid (H.out.fr (nb16 HBA.out) id (fun _ _ => id) (fun _ _ => id) (fun _ _ => id))
        have XA : Hid (∀ j, X j → j < (w1.alloc (.cells #[.int .u8 t0, .int .i64 t1, .int .i64 t2] 33)).heap.size) := Lib.hid (fun j hj => Nat.lt_of_lt_of_le (X4.out j hj) HBA.out.size)
        generalize (w1.alloc (.cells #[.int .u8 t0, .int .i64 t1, .int .i64 t2] 33)) = wa at HBA HQ1 HQ0 HAA XA ⊢
        clear p0 p1 p2 r0 r1 r2 HFIN HP HB1 hl1
        generalize (w1.heap.size : Nat) = P1 at HQ1 HPX1 HNE ⊢
        have HRV := Lib.hid (Rv.of_own HAA.out.rs (fun x hx => HAA.out.ok x (List.mem_append_right _ hx))).1
        have HRV := Lib.hid HRV.out.dropLast
        have b1 := HAA.out.c0.2.1
        rw [HN.out] at b1
        have hc2 : m + 1 ≤ c2 := by have := (Rv.of_own HAA.out.rs (fun x hx => HAA.out.ok x (List.mem_append_right _ hx))).1.2.1; rw [HN.out] at this; exact this
        have hcut := cut16 g c2 m (by omega)
        have hwm : IntKind.i64.wrap (m : Int) = m := by rw [IntKind.wrap_i64]; omega
        refine wp_region_L [16] (S := fun w' => w'.cell? ⟨B, 1, none⟩ = some (.slice (some ⟨g, 0, none⟩) (m + 1) c2)) (by kernel_rfl) (b1) (fun hHeld => ?_)
        refine wpL_reckon (i := 0) (v := ?_) rfl (by kernel_rfl) (fun _ _ _ h => h) (Or.inl ⟨by rfl, ?_⟩) (Or.inr (by assumption)) ?_
        rotate_left 1
        · intro w _; go_simp; try with_reducible rfl
        try simp only [Act.put, List.getElem_toArray, List.getElem_cons_zero, List.getElem_cons_succ, List.setIfInBounds_toArray, List.set_cons_zero, List.set_cons_succ]
        refine wpL_reckon (i := 2) (v := ?_) rfl (by kernel_rfl) (fun _ _ _ h => h) (Or.inl ⟨by rfl, ?_⟩) (Or.inr (by assumption)) ?_
        rotate_left 1
        · intro w _; go_simp; try with_reducible rfl
        try simp only [Act.put, List.getElem_toArray, List.getElem_cons_zero, List.getElem_cons_succ, List.setIfInBounds_toArray, List.set_cons_zero, List.set_cons_succ]
        refine wpL_reckon (i := 3) (v := ?_) rfl (by kernel_rfl) (fun _ _ _ h => h) (Or.inl ⟨by rfl, ?_⟩) (Or.inr (by assumption)) ?_
        rotate_left 1
        · intro w _; go_simp; try with_reducible rfl
        try simp only [Act.put, List.getElem_toArray, List.getElem_cons_zero, List.getElem_cons_succ, List.setIfInBounds_toArray, List.set_cons_zero, List.set_cons_succ]
        refine wpL_reckon (i := 4) (v := ?_) rfl (by kernel_rfl) (fun _ _ _ h => h) (Or.inl ⟨by rfl, ?_⟩) (Or.inr (by assumption)) ?_
        rotate_left 1
        · intro w _; go_simp; try with_reducible rfl
        try simp only [Act.put, List.getElem_toArray, List.getElem_cons_zero, List.getElem_cons_succ, List.setIfInBounds_toArray, List.set_cons_zero, List.set_cons_succ]
        refine wpL_take (i := 5) (v := ?_) rfl (by kernel_rfl) (fun _ _ _ h => h) (Or.inl ⟨by rfl, ?_⟩) (by assumption) ?_
        rotate_left 1
        · intro w hSw; (try dsimp only at hSw); obtain s1 := hSw; go_simp; try with_reducible rfl
        try simp only [Act.put, List.getElem_toArray, List.getElem_cons_zero, List.getElem_cons_succ, List.setIfInBounds_toArray, List.set_cons_zero, List.set_cons_succ]
        refine wpL_reckon (i := 6) (v := ?_) rfl (by kernel_rfl) (fun _ _ _ h => h) (Or.inl ⟨by rfl, ?_⟩) (Or.inr (by assumption)) ?_
        rotate_left 1
        · intro w _; go_simp; try with_reducible rfl
        try simp only [Act.put, List.getElem_toArray, List.getElem_cons_zero, List.getElem_cons_succ, List.setIfInBounds_toArray, List.set_cons_zero, List.set_cons_succ]
        refine wpL_reckon (i := 7) (v := ?_) rfl (by kernel_rfl) (fun _ _ _ h => h) (Or.inl ⟨by rfl, ?_⟩) (Or.inr (by assumption)) ?_
        rotate_left 1
        · intro w _; go_simp; try with_reducible rfl
        try simp only [Act.put, List.getElem_toArray, List.getElem_cons_zero, List.getElem_cons_succ, List.setIfInBounds_toArray, List.set_cons_zero, List.set_cons_succ]
        refine wpL_reckon (i := 8) (v := ?_) rfl (by kernel_rfl) (fun _ _ _ h => h) (Or.inl ⟨by rfl, ?_⟩) (Or.inr (by assumption)) ?_
        rotate_left 1
        · intro w _; go_simp; try with_reducible rfl
        try simp only [Act.put, List.getElem_toArray, List.getElem_cons_zero, List.getElem_cons_succ, List.setIfInBounds_toArray, List.set_cons_zero, List.set_cons_succ]
        refine wpL_take (i := 9) (v := ?_) rfl (by kernel_rfl) (fun _ _ _ h => h) (Or.inl ⟨by rfl, ?_⟩) (by assumption) ?_
        rotate_left 1
        · intro w hSw; (try dsimp only at hSw); obtain s1 := hSw; go_simp; try with_reducible rfl
        try simp only [Act.put, List.getElem_toArray, List.getElem_cons_zero, List.getElem_cons_succ, List.setIfInBounds_toArray, List.set_cons_zero, List.set_cons_succ]
        refine wpL_reckon (i := 10) (v := ?_) rfl (by kernel_rfl) (fun _ _ _ h => h) (Or.inl ⟨by rfl, ?_⟩) (Or.inr (by assumption)) ?_
        rotate_left 1
        · intro w _; go_simp; try with_reducible rfl
        try simp only [Act.put, List.getElem_toArray, List.getElem_cons_zero, List.getElem_cons_succ, List.setIfInBounds_toArray, List.set_cons_zero, List.set_cons_succ]
        refine wpL_reckon (i := 11) (v := ?_) rfl (by kernel_rfl) (fun _ _ _ h => h) (Or.inl ⟨by rfl, ?_⟩) (Or.inr (by assumption)) ?_
        rotate_left 1
        · intro w _; go_simp; try with_reducible rfl
        try simp only [Act.put, List.getElem_toArray, List.getElem_cons_zero, List.getElem_cons_succ, List.setIfInBounds_toArray, List.set_cons_zero, List.set_cons_succ]
        refine wpL_reckon (i := 12) (v := ?_) rfl (by kernel_rfl) (fun _ _ _ h => h) (Or.inl ⟨by rfl, ?_⟩) (Or.inr (by assumption)) ?_
        rotate_left 1
        · intro w _; go_simp; try with_reducible rfl
        try simp only [Act.put, List.getElem_toArray, List.getElem_cons_zero, List.getElem_cons_succ, List.setIfInBounds_toArray, List.set_cons_zero, List.set_cons_succ]
        refine wpL_ready (rs := [1]) (by kernel_rfl) (by simp) ?_
        refine AllL.cons rfl (fun K hK => ?_) AllL.nil
        go_simp
        have HF2 : Hid (Fr11 (fun _ => False) wa (wa.alloc (.cells #[] 33)).drew) := Lib.hid (((Fr11.refl _ _).alloc _).drewN 1)
        have HE2 : Hid ((wa.alloc (.cells #[] 33)).drew.ownsRow 0 33 3 (.slice (some ⟨wa.heap.size, 0, none⟩) 0 0) 0 (cev [])) := Lib.hid (World.ownsRow_lit (base := 0) (size := 3) (e := 33) wa #[] 0 (Nat.zero_le _) (by unfold maxLen; omega) rfl)
        have b1b : (wa.alloc (.cells #[] 33)).drew.cell? ⟨B, 1, none⟩ = some (.slice (some ⟨g, 0, none⟩) (m + 1) c2) := (World.cell?_of_block (HF2.out.block _ (cell_lt b1) id)).trans b1
        have HS2 : Hid (wa.heap.size ≤ (wa.alloc (.cells #[] 33)).drew.heap.size) := Lib.hid HF2.out.size
        have HP2 : Hid (wa.heap.size ≤ wa.heap.size) := Lib.hid (Nat.le_refl _)
        generalize (wa.alloc (.cells #[] 33)).drew = wb at HF2 HE2 b1b HS2 ⊢
        generalize hP2 : (wa.heap.size : Nat) = P2 at HE2 ⊢
        have HP2 : Hid (wa.heap.size ≤ P2) := Lib.hid (by omega)
        clear hP2
        refine hK.out _ _ (b1b) (fun hHeld => ?_)
        clear hK K
        try simp only [Act.put, List.getElem_toArray, List.getElem_cons_zero, List.getElem_cons_succ, List.setIfInBounds_toArray, List.set_cons_zero, List.set_cons_succ]
        refine wpL_ready (rs := [13]) (by kernel_rfl) (by simp) ?_
        refine AllL.cons rfl (fun K hK => ?_) AllL.nil
        have HR2 := Lib.hid (HRV.out.fr16 HF2.out (fun _ _ => id))
        refine step_append_rvgb rfl (.tmp 27) (.tmp 38) rfl (.slice (some ⟨P2, 0, none⟩) 0 0) 0 [] rfl HE2.out ⟨g, 0, none⟩ m c2 f.s.dropLast rfl HR2.out (by omega) (by rw [List.length_dropLast, HN.out]; rfl) (by omega) ?_
        intro A9 c9 w9 ho9 hg9 hb9
        rw [Nat.zero_add] at ho9 hb9 ⊢
        rw [List.nil_append] at ho9
        have hf9 : Fr11 (fun j => some j = (Value.slice (some ⟨g, 0, none⟩) f.s.length c2).ownBlock) wa w9 := (HF2.out.mono fun _ => False.elim).trans (Fr11.of_grown (X := fun j => j = P2) hg9 fun j hj => by simpa [Value.ownBlock] using hj) (fun j hj e => by have := HP2.out; omega)
        obtain ⟨hB9, hend⟩ := rf16_stack (s' := f.s.dropLast) (by rw [List.length_dropLast, HN.out]; rfl) (fun y hy => HAA.out.ok y (by
          rcases List.mem_append.1 hy with hy | hy
          · exact List.mem_append_left _ hy
          · exact List.mem_append_right _ (List.dropLast_subset _ hy))) (by rw [List.length_dropLast, HN.out]; have := HLM.out; omega) HAA.out x0 X1.out X2.out X3.out XA.out hf9 ho9 (hb16 (.inr (hb9.elim (fun h => ⟨P2, HP2.out, h.trans rfl⟩) fun h => ⟨_, HS2.out, h⟩)))
        have HEND := Lib.hid hend
        have b1c : w9.cell? ⟨B, 1, none⟩ = some (.slice (some ⟨g, 0, none⟩) (m + 1) c2) := by simp [World.cell?, hB9, HN.out]
        have hz9 : w9.frozen? ⟨B, 1, none⟩ = false := frozen_of_row w9 B 1 _ _ hB9
        have HKB : Hid (∀ j, j < wa.heap.size → ¬ X j → w9.heap[j]? = wa.heap[j]?) := Lib.hid (fun j hj hx => hf9.block j hj (fun e => hx (by have e2 : j = g := by { simpa [Value.ownBlock] using e }; rw [e2]; exact X2.out _ rfl)))
        have HBL9 : Hid (Fr11 (fun j => j = g) wa w9) := Lib.hid (hf9.mono fun j e => by simpa [Value.ownBlock] using e)
        clear HF2 HE2 b1b HS2 HR2 ho9 hg9 hb9 hf9 hB9 hend
        refine hK.out _ _ (b1c) (fun hHeld => ?_)
        clear hK K
        try simp only [Act.put, List.getElem_toArray, List.getElem_cons_zero, List.getElem_cons_succ, List.setIfInBounds_toArray, List.set_cons_zero, List.set_cons_succ]
        refine wpL_reckon (i := 14) (v := ?_) rfl (by kernel_rfl) (fun _ _ _ h => h) (Or.inl ⟨by rfl, ?_⟩) (Or.inr (by assumption)) ?_
        rotate_left 1
        · intro w _; go_simp; try with_reducible rfl
        try simp only [Act.put, List.getElem_toArray, List.getElem_cons_zero, List.getElem_cons_succ, List.setIfInBounds_toArray, List.set_cons_zero, List.set_cons_succ]
        refine wpL_reckon (i := 15) (v := ?_) rfl (by kernel_rfl) (fun _ _ _ h => h) (Or.inl ⟨by rfl, ?_⟩) (Or.inr (by assumption)) ?_
        rotate_left 1
        · intro w _; go_simp; try with_reducible rfl
        try simp only [Act.put, List.getElem_toArray, List.getElem_cons_zero, List.getElem_cons_succ, List.setIfInBounds_toArray, List.set_cons_zero, List.set_cons_succ]
        refine wpL_ready (rs := [16]) (by kernel_rfl) (by simp) ?_
        refine AllL.late rfl (by kernel_rfl) (fun K hK => ?_) AllL.nil
        go_simp
        refine hK.out _ _ ?_
        clear hK K
        try simp only [Act.put, List.getElem_toArray, List.getElem_cons_zero, List.getElem_cons_succ, List.setIfInBounds_toArray, List.set_cons_zero, List.set_cons_succ]
        refine wpL_done (by kernel_rfl) ?_ _
        obtain ⟨X', e1, e2, e3⟩ := HEND.out
        have hQ0 := (e2.block P0 (Array.getElem?_eq_some_iff.1 HQ0.out).1 HPX.out).trans HQ0.out
        have hQ1 := (e2.block P1 (Array.getElem?_eq_some_iff.1 HQ1.out).1 HPX1.out).trans HQ1.out
        have HLP : Hid (P0 < wa.heap.size) := Lib.hid (Array.getElem?_eq_some_iff.1 HQ0.out).1
        generalize (w9.setCell ⟨B, 1, none⟩ (.slice A9 m c9)) = wz at e1 e2 hQ0 hQ1 ⊢
        have E1 := Lib.hid e1
        have E2 := Lib.hid e2
        have E3 := Lib.hid e3
        have HZ0 := Lib.hid hQ0
        clear b1c hz9 HKB HBL9 hHeld e1 e2 e3
        have d0 : wz.cell? ⟨P1, 0, none⟩ = some (.int .u8 t0) := by simp [World.cell?, hQ1]
        have d1 : wz.cell? ⟨P1, 1, none⟩ = some (.int .i64 t1) := by simp [World.cell?, hQ1]
        have d2 : wz.cell? ⟨P1, 2, none⟩ = some (.int .i64 t2) := by simp [World.cell?, hQ1]
        have z0 : wz.cell? ⟨P0, 0, none⟩ = some (.int .u8 0) := by simp [World.cell?, hQ0]
        have z1 : wz.cell? ⟨P0, 1, none⟩ = some (.int .i64 0) := by simp [World.cell?, hQ0]
        have z2 : wz.cell? ⟨P0, 2, none⟩ = some (.int .i64 0) := by simp [World.cell?, hQ0]
        have y0 : wz.frozen? ⟨P0, 0, none⟩ = false := frozen_of_row wz P0 0 _ _ hQ0
        have y1 : wz.frozen? ⟨P0, 1, none⟩ = false := frozen_of_row wz P0 1 _ _ hQ0
        have y2 : wz.frozen? ⟨P0, 2, none⟩ = false := frozen_of_row wz P0 2 _ _ hQ0
        clear hQ0 hQ1
        dsimp only [Exit.then]
        go_wp2_with fail
        refine ret16 _ _ P0 (t0, t1, t2) true _ rfl rfl (box16 HZ0.out) ?_
        rw [HO.out, HOV.out, HOF.out]
        have hfz : Fr11 (fun j => j = P0) wz (((wz.setCell ⟨P0, 0, none⟩ (.int .u8 t0)).setCell ⟨P0, 1, none⟩ (.int .i64 t1)).setCell ⟨P0, 2, none⟩ (.int .i64 t2)) := (((Fr11.refl (fun j => j = P0) wz).set (p := ⟨P0, 0, none⟩) (.inr rfl) _).set (p := ⟨P0, 1, none⟩) (.inr rfl) _).set (p := ⟨P0, 2, none⟩) (.inr rfl) _
        exact ⟨rfl, X', E1.out.fr hfz (fun j hj e => by
          subst e
          rcases E3.out _ hj with h | h
          · exact HPX.out h
          · have := HLP.out; omega), ((Fr11.of_below (X := X) HBA.out (fun j h1 h2 => by omega)).trans E2.out (fun _ _ => id)).trans hfz (fun j hj e => by have := HP0.out; omega), fun j hj => (E3.out j hj).imp id (fun h => Nat.le_trans HBA.out.size h)⟩
      · have hk1 : (k != 0) = true := by simpa using hk0
        obtain rfl : t0 = k := by have := HKK.out; omega
        go_upto_region 4 with (fail)
        have HBA : Hid (Below w.heap.size w (w1.alloc (.cells #[.int .u8 t0, .int .i64 t1, .int .i64 t2] 33))) := Lib.hid (HB1.out.alloc HB1.out.size _)
        have HQ1 : Hid ((w1.alloc (.cells #[.int .u8 t0, .int .i64 t1, .int .i64 t2] 33)).heap[w1.heap.size]? = some (.cells #[.int .u8 t0, .int .i64 t1, .int .i64 t2] 33 (0, 0))) := Lib.hid (World.alloc_heap_new _ _)
        have HQ0 : Hid ((w1.alloc (.cells #[.int .u8 t0, .int .i64 t1, .int .i64 t2] 33)).heap[P0]? = some (.cells #[.int .u8 0, .int .i64 0, .int .i64 0] 33 (0, 0))) := Lib.hid ((Below.heap_alloc _ _ _ hl1).trans HP.out)
        have HNE : Hid (P0 ≠ w1.heap.size) := Lib.hid (by omega)
        have HAA := Lib.hid (H.out.fr (nb16 HBA.out) id (fun _ _ => id) (fun _ _ => id) (fun _ _ => id))
        have XA : Hid (∀ j, X j → j < (w1.alloc (.cells #[.int .u8 t0, .int .i64 t1, .int .i64 t2] 33)).heap.size) := Lib.hid (fun j hj => Nat.lt_of_lt_of_le (X4.out j hj) HBA.out.size)
        generalize (w1.alloc (.cells #[.int .u8 t0, .int .i64 t1, .int .i64 t2] 33)) = wa at HBA HQ1 HQ0 HAA XA ⊢
        clear p0 p1 p2 r0 r1 r2 HFIN HP HB1 hl1
        generalize (w1.heap.size : Nat) = P1 at HQ1 HPX1 HNE ⊢
        have HRV := Lib.hid (Rv.of_own HAA.out.rs (fun x hx => HAA.out.ok x (List.mem_append_right _ hx))).1
        have HRV := Lib.hid HRV.out.dropLast
        have b1 := HAA.out.c0.2.1
        rw [HN.out] at b1
        have hc2 : m + 1 ≤ c2 := by have := (Rv.of_own HAA.out.rs (fun x hx => HAA.out.ok x (List.mem_append_right _ hx))).1.2.1; rw [HN.out] at this; exact this
        have hcut := cut16 g c2 m (by omega)
        have hwm : IntKind.i64.wrap (m : Int) = m := by rw [IntKind.wrap_i64]; omega
        refine wp_region_L [16] (S := fun w' => w'.cell? ⟨B, 1, none⟩ = some (.slice (some ⟨g, 0, none⟩) (m + 1) c2)) (by kernel_rfl) (b1) (fun hHeld => ?_)
        refine wpL_reckon (i := 0) (v := ?_) rfl (by kernel_rfl) (fun _ _ _ h => h) (Or.inl ⟨by rfl, ?_⟩) (Or.inr (by assumption)) ?_
        rotate_left 1
        · intro w _; go_simp; try with_reducible rfl
        try simp only [Act.put, List.getElem_toArray, List.getElem_cons_zero, List.getElem_cons_succ, List.setIfInBounds_toArray, List.set_cons_zero, List.set_cons_succ]
        refine wpL_reckon (i := 2) (v := ?_) rfl (by kernel_rfl) (fun _ _ _ h => h) (Or.inl ⟨by rfl, ?_⟩) (Or.inr (by assumption)) ?_
        rotate_left 1
        · intro w _; go_simp; try with_reducible rfl
        try simp only [Act.put, List.getElem_toArray, List.getElem_cons_zero, List.getElem_cons_succ, List.setIfInBounds_toArray, List.set_cons_zero, List.set_cons_succ]
        refine wpL_reckon (i := 3) (v := ?_) rfl (by kernel_rfl) (fun _ _ _ h => h) (Or.inl ⟨by rfl, ?_⟩) (Or.inr (by assumption)) ?_
        rotate_left 1
        · intro w _; go_simp; try with_reducible rfl
        try simp only [Act.put, List.getElem_toArray, List.getElem_cons_zero, List.getElem_cons_succ, List.setIfInBounds_toArray, List.set_cons_zero, List.set_cons_succ]
        refine wpL_reckon (i := 4) (v := ?_) rfl (by kernel_rfl) (fun _ _ _ h => h) (Or.inl ⟨by rfl, ?_⟩) (Or.inr (by assumption)) ?_
        rotate_left 1
        · intro w _; go_simp; try with_reducible rfl
        try simp only [Act.put, List.getElem_toArray, List.getElem_cons_zero, List.getElem_cons_succ, List.setIfInBounds_toArray, List.set_cons_zero, List.set_cons_succ]
        refine wpL_take (i := 5) (v := ?_) rfl (by kernel_rfl) (fun _ _ _ h => h) (Or.inl ⟨by rfl, ?_⟩) (by assumption) ?_
        rotate_left 1
        · intro w hSw; (try dsimp only at hSw); obtain s1 := hSw; go_simp; try with_reducible rfl
        try simp only [Act.put, List.getElem_toArray, List.getElem_cons_zero, List.getElem_cons_succ, List.setIfInBounds_toArray, List.set_cons_zero, List.set_cons_succ]
        refine wpL_reckon (i := 6) (v := ?_) rfl (by kernel_rfl) (fun _ _ _ h => h) (Or.inl ⟨by rfl, ?_⟩) (Or.inr (by assumption)) ?_
        rotate_left 1
        · intro w _; go_simp; try with_reducible rfl
        try simp only [Act.put, List.getElem_toArray, List.getElem_cons_zero, List.getElem_cons_succ, List.setIfInBounds_toArray, List.set_cons_zero, List.set_cons_succ]
        refine wpL_reckon (i := 7) (v := ?_) rfl (by kernel_rfl) (fun _ _ _ h => h) (Or.inl ⟨by rfl, ?_⟩) (Or.inr (by assumption)) ?_
        rotate_left 1
        · intro w _; go_simp; try with_reducible rfl
        try simp only [Act.put, List.getElem_toArray, List.getElem_cons_zero, List.getElem_cons_succ, List.setIfInBounds_toArray, List.set_cons_zero, List.set_cons_succ]
        refine wpL_reckon (i := 8) (v := ?_) rfl (by kernel_rfl) (fun _ _ _ h => h) (Or.inl ⟨by rfl, ?_⟩) (Or.inr (by assumption)) ?_
        rotate_left 1
        · intro w _; go_simp; try with_reducible rfl
        try simp only [Act.put, List.getElem_toArray, List.getElem_cons_zero, List.getElem_cons_succ, List.setIfInBounds_toArray, List.set_cons_zero, List.set_cons_succ]
        refine wpL_take (i := 9) (v := ?_) rfl (by kernel_rfl) (fun _ _ _ h => h) (Or.inl ⟨by rfl, ?_⟩) (by assumption) ?_
        rotate_left 1
        · intro w hSw; (try dsimp only at hSw); obtain s1 := hSw; go_simp; try with_reducible rfl
        try simp only [Act.put, List.getElem_toArray, List.getElem_cons_zero, List.getElem_cons_succ, List.setIfInBounds_toArray, List.set_cons_zero, List.set_cons_succ]
        refine wpL_reckon (i := 10) (v := ?_) rfl (by kernel_rfl) (fun _ _ _ h => h) (Or.inl ⟨by rfl, ?_⟩) (Or.inr (by assumption)) ?_
        rotate_left 1
        · intro w _; go_simp; try with_reducible rfl
        try simp only [Act.put, List.getElem_toArray, List.getElem_cons_zero, List.getElem_cons_succ, List.setIfInBounds_toArray, List.set_cons_zero, List.set_cons_succ]
        refine wpL_reckon (i := 11) (v := ?_) rfl (by kernel_rfl) (fun _ _ _ h => h) (Or.inl ⟨by rfl, ?_⟩) (Or.inr (by assumption)) ?_
        rotate_left 1
        · intro w _; go_simp; try with_reducible rfl
        try simp only [Act.put, List.getElem_toArray, List.getElem_cons_zero, List.getElem_cons_succ, List.setIfInBounds_toArray, List.set_cons_zero, List.set_cons_succ]
        refine wpL_reckon (i := 12) (v := ?_) rfl (by kernel_rfl) (fun _ _ _ h => h) (Or.inl ⟨by rfl, ?_⟩) (Or.inr (by assumption)) ?_
        rotate_left 1
        · intro w _; go_simp; try with_reducible rfl
        try simp only [Act.put, List.getElem_toArray, List.getElem_cons_zero, List.getElem_cons_succ, List.setIfInBounds_toArray, List.set_cons_zero, List.set_cons_succ]
        refine wpL_ready (rs := [1]) (by kernel_rfl) (by simp) ?_
        refine AllL.cons rfl (fun K hK => ?_) AllL.nil
        go_simp
        have HF2 : Hid (Fr11 (fun _ => False) wa (wa.alloc (.cells #[] 33)).drew) := Lib.hid (((Fr11.refl _ _).alloc _).drewN 1)
        have HE2 : Hid ((wa.alloc (.cells #[] 33)).drew.ownsRow 0 33 3 (.slice (some ⟨wa.heap.size, 0, none⟩) 0 0) 0 (cev [])) := Lib.hid (World.ownsRow_lit (base := 0) (size := 3) (e := 33) wa #[] 0 (Nat.zero_le _) (by unfold maxLen; omega) rfl)
        have b1b : (wa.alloc (.cells #[] 33)).drew.cell? ⟨B, 1, none⟩ = some (.slice (some ⟨g, 0, none⟩) (m + 1) c2) := (World.cell?_of_block (HF2.out.block _ (cell_lt b1) id)).trans b1
        have HS2 : Hid (wa.heap.size ≤ (wa.alloc (.cells #[] 33)).drew.heap.size) := Lib.hid HF2.out.size
        have HP2 : Hid (wa.heap.size ≤ wa.heap.size) := Lib.hid (Nat.le_refl _)
        generalize (wa.alloc (.cells #[] 33)).drew = wb at HF2 HE2 b1b HS2 ⊢
        generalize hP2 : (wa.heap.size : Nat) = P2 at HE2 ⊢
        have HP2 : Hid (wa.heap.size ≤ P2) := Lib.hid (by omega)
        clear hP2
        refine hK.out _ _ (b1b) (fun hHeld => ?_)
        clear hK K
        try simp only [Act.put, List.getElem_toArray, List.getElem_cons_zero, List.getElem_cons_succ, List.setIfInBounds_toArray, List.set_cons_zero, List.set_cons_succ]
        refine wpL_ready (rs := [13]) (by kernel_rfl) (by simp) ?_
        refine AllL.cons rfl (fun K hK => ?_) AllL.nil
        have HR2 := Lib.hid (HRV.out.fr16 HF2.out (fun _ _ => id))
        refine step_append_rvgb rfl (.tmp 27) (.tmp 38) rfl (.slice (some ⟨P2, 0, none⟩) 0 0) 0 [] rfl HE2.out ⟨g, 0, none⟩ m c2 f.s.dropLast rfl HR2.out (by omega) (by rw [List.length_dropLast, HN.out]; rfl) (by omega) ?_
        intro A9 c9 w9 ho9 hg9 hb9
        rw [Nat.zero_add] at ho9 hb9 ⊢
        rw [List.nil_append] at ho9
        have hf9 : Fr11 (fun j => some j = (Value.slice (some ⟨g, 0, none⟩) f.s.length c2).ownBlock) wa w9 := (HF2.out.mono fun _ => False.elim).trans (Fr11.of_grown (X := fun j => j = P2) hg9 fun j hj => by simpa [Value.ownBlock] using hj) (fun j hj e => by have := HP2.out; omega)
        obtain ⟨hB9, hend⟩ := rf16_stack (s' := f.s.dropLast) (by rw [List.length_dropLast, HN.out]; rfl) (fun y hy => HAA.out.ok y (by
          rcases List.mem_append.1 hy with hy | hy
          · exact List.mem_append_left _ hy
          · exact List.mem_append_right _ (List.dropLast_subset _ hy))) (by rw [List.length_dropLast, HN.out]; have := HLM.out; omega) HAA.out x0 X1.out X2.out X3.out XA.out hf9 ho9 (hb16 (.inr (hb9.elim (fun h => ⟨P2, HP2.out, h.trans rfl⟩) fun h => ⟨_, HS2.out, h⟩)))
        have HEND := Lib.hid hend
        have b1c : w9.cell? ⟨B, 1, none⟩ = some (.slice (some ⟨g, 0, none⟩) (m + 1) c2) := by simp [World.cell?, hB9, HN.out]
        have hz9 : w9.frozen? ⟨B, 1, none⟩ = false := frozen_of_row w9 B 1 _ _ hB9
        have HKB : Hid (∀ j, j < wa.heap.size → ¬ X j → w9.heap[j]? = wa.heap[j]?) := Lib.hid (fun j hj hx => hf9.block j hj (fun e => hx (by have e2 : j = g := by { simpa [Value.ownBlock] using e }; rw [e2]; exact X2.out _ rfl)))
        have HBL9 : Hid (Fr11 (fun j => j = g) wa w9) := Lib.hid (hf9.mono fun j e => by simpa [Value.ownBlock] using e)
        clear HF2 HE2 b1b HS2 HR2 ho9 hg9 hb9 hf9 hB9 hend
        refine hK.out _ _ (b1c) (fun hHeld => ?_)
        clear hK K
        try simp only [Act.put, List.getElem_toArray, List.getElem_cons_zero, List.getElem_cons_succ, List.setIfInBounds_toArray, List.set_cons_zero, List.set_cons_succ]
        refine wpL_reckon (i := 14) (v := ?_) rfl (by kernel_rfl) (fun _ _ _ h => h) (Or.inl ⟨by rfl, ?_⟩) (Or.inr (by assumption)) ?_
        rotate_left 1
        · intro w _; go_simp; try with_reducible rfl
        try simp only [Act.put, List.getElem_toArray, List.getElem_cons_zero, List.getElem_cons_succ, List.setIfInBounds_toArray, List.set_cons_zero, List.set_cons_succ]
        refine wpL_reckon (i := 15) (v := ?_) rfl (by kernel_rfl) (fun _ _ _ h => h) (Or.inl ⟨by rfl, ?_⟩) (Or.inr (by assumption)) ?_
        rotate_left 1
        · intro w _; go_simp; try with_reducible rfl
        try simp only [Act.put, List.getElem_toArray, List.getElem_cons_zero, List.getElem_cons_succ, List.setIfInBounds_toArray, List.set_cons_zero, List.set_cons_succ]
        refine wpL_ready (rs := [16]) (by kernel_rfl) (by simp) ?_
        refine AllL.late rfl (by kernel_rfl) (fun K hK => ?_) AllL.nil
        go_simp
        refine hK.out _ _ ?_
        clear hK K
        try simp only [Act.put, List.getElem_toArray, List.getElem_cons_zero, List.getElem_cons_succ, List.setIfInBounds_toArray, List.set_cons_zero, List.set_cons_succ]
        refine wpL_done (by kernel_rfl) ?_ _
        obtain ⟨X', e1, e2, e3⟩ := HEND.out
        have hQ0 := (e2.block P0 (Array.getElem?_eq_some_iff.1 HQ0.out).1 HPX.out).trans HQ0.out
        have hQ1 := (e2.block P1 (Array.getElem?_eq_some_iff.1 HQ1.out).1 HPX1.out).trans HQ1.out
        have HLP : Hid (P0 < wa.heap.size) := Lib.hid (Array.getElem?_eq_some_iff.1 HQ0.out).1
        generalize (w9.setCell ⟨B, 1, none⟩ (.slice A9 m c9)) = wz at e1 e2 hQ0 hQ1 ⊢
        have E1 := Lib.hid e1
        have E2 := Lib.hid e2
        have E3 := Lib.hid e3
        have HZ0 := Lib.hid hQ0
        clear b1c hz9 HKB HBL9 hHeld e1 e2 e3
        have d0 : wz.cell? ⟨P1, 0, none⟩ = some (.int .u8 t0) := by simp [World.cell?, hQ1]
        have d1 : wz.cell? ⟨P1, 1, none⟩ = some (.int .i64 t1) := by simp [World.cell?, hQ1]
        have d2 : wz.cell? ⟨P1, 2, none⟩ = some (.int .i64 t2) := by simp [World.cell?, hQ1]
        have z0 : wz.cell? ⟨P0, 0, none⟩ = some (.int .u8 0) := by simp [World.cell?, hQ0]
        have z1 : wz.cell? ⟨P0, 1, none⟩ = some (.int .i64 0) := by simp [World.cell?, hQ0]
        have z2 : wz.cell? ⟨P0, 2, none⟩ = some (.int .i64 0) := by simp [World.cell?, hQ0]
        have y0 : wz.frozen? ⟨P0, 0, none⟩ = false := frozen_of_row wz P0 0 _ _ hQ0
        have y1 : wz.frozen? ⟨P0, 1, none⟩ = false := frozen_of_row wz P0 1 _ _ hQ0
        have y2 : wz.frozen? ⟨P0, 2, none⟩ = false := frozen_of_row wz P0 2 _ _ hQ0
        clear hQ0 hQ1
        dsimp only [Exit.then]
        go_wp2_with fail
        refine ret16 _ _ P0 (t0, t1, t2) true _ rfl rfl (box16 HZ0.out) ?_
        rw [HO.out, HOV.out, HOF.out]
        have hfz : Fr11 (fun j => j = P0) wz (((wz.setCell ⟨P0, 0, none⟩ (.int .u8 t0)).setCell ⟨P0, 1, none⟩ (.int .i64 t1)).setCell ⟨P0, 2, none⟩ (.int .i64 t2)) := (((Fr11.refl (fun j => j = P0) wz).set (p := ⟨P0, 0, none⟩) (.inr rfl) _).set (p := ⟨P0, 1, none⟩) (.inr rfl) _).set (p := ⟨P0, 2, none⟩) (.inr rfl) _
        exact ⟨rfl, X', E1.out.fr hfz (fun j hj e => by
          subst e
          rcases E3.out _ hj with h | h
          · exact HPX.out h
          · have := HLP.out; omega), ((Fr11.of_below (X := X) HBA.out (fun j h1 h2 => by omega)).trans E2.out (fun _ _ => id)).trans hfz (fun j hj e => by have := HP0.out; omega), fun j hj => (E3.out j hj).imp id (fun h => Nat.le_trans HBA.out.size h)⟩
    · have HO : Hid (oB16 f k = false) := Lib.hid (by rw [oB16, htb, HTV.out]; simp; omega)
      have hk1 : (k != 0) = true := by simp; omega
      have hk2 : (k != t0) = true := by simp; omega
      clear htb hk
      go_wp2_with fail
      refine ret16 _ _ P0 z16 false _ rfl rfl ((Below.heap_alloc _ _ _ (by simpa using hl1)).trans (box16 HP.out)) ?_
      rw [(oB16_no HO.out).1, (oB16_no HO.out).2, HO.out]
      exact ⟨rfl, X, H0.out.keep (HFIN.out _ _ _ _), Fr11.of_below (X := X) (HFIN.out _ _ _ _) (fun j h1 h2 => by omega), fun _ => .inl⟩
end Go.Proofs.Ytkifapnmojfjoaa
