/-
  Layer 16: the program's Pop.
-/
import Derived.Test.YtkifapnmojfjoaaUq
namespace Go.Proofs.Ytkifapnmojfjoaa
open Go.RowKit Go.Maps
set_option maxRecDepth 100000
set_option linter.unusedSimpArgs false
set_option linter.unusedVariables false

theorem pcut16 {w : World} {A : Option Addr} {m c : Nat} {Q : List Vlu} (h : w.ownsRow 0 33 3 (.slice A (m + 1) c) (m + 1) (cev Q)) (hQ : Q.length = m + 1) : w.ownsRow 0 33 3 (.slice A m c) m (cev Q.dropLast) := by
  refine ⟨by rw [length_cev, List.length_dropLast, hQ]; rfl, .inr ?_⟩
  rcases h.2 with ⟨h1, h0⟩ | ⟨ra, cap, cur, hv, hb, hh, hn, hm, hs, ht⟩
  · omega
  · injection hv with e1 e2 e3
    subst e1 e3
    refine ⟨ra, c, cur, rfl, hb, hh, by omega, hm, hs, ?_⟩
    have h2 : (cur.toList.take ((m + 1) * 3)).take (m * 3) = (cev Q).take (m * 3) := by rw [ht]
    obtain ⟨K, y, e⟩ : ∃ K y, Q = K ++ [y] := ⟨Q.dropLast, Q.getLast (by intro e; rw [e] at hQ; simp at hQ), (List.dropLast_concat_getLast _).symm⟩
    have hl : (cev Q.dropLast).length = m * 3 := by rw [length_cev, List.length_dropLast, hQ]; rfl
    rw [List.take_take, Nat.min_eq_left (by omega)] at h2
    rw [h2]
    subst e
    rw [List.dropLast_concat] at hl ⊢
    rw [cev_append, List.take_append_of_le_length (by rw [hl]; exact Nat.le_refl _), List.take_of_length_le (by rw [hl]; exact Nat.le_refl _)]
theorem pret16 (tm : Array Value) (W : World) (P : Nat) (x : Vlu) (b : Bool) (R : Ending → World → Prop) (h4 : tm[4]?.getD undef = .pointer (some ⟨P, 0, none⟩)) (h5 : tm[5]?.getD undef = .bool b) (hW : W.heap[P]? = some (.cells #[.int .u8 x.1, .int .i64 x.2.1, .int .i64 x.2.2] 33 (0, 0)))
    (hR : R (.returned (.tuple #[va16 x, .bool b])) W) : bodyPost Try.prog Try.f18 R .ret { tmps := tm, defers := [] } W := by
  have c0 : W.cell? ⟨P, 0, none⟩ = some (.int .u8 x.1) := by simp [World.cell?, hW]
  have c1 : W.cell? ⟨P, 1, none⟩ = some (.int .i64 x.2.1) := by simp [World.cell?, hW]
  have c2 : W.cell? ⟨P, 2, none⟩ = some (.int .i64 x.2.2) := by simp [World.cell?, hW]
  refine bodyPost_ret (v := .tuple #[.agg #[.int .u8 x.1, .int .i64 x.2.1, .int .i64 x.2.2], .bool b]) ?_ rfl hR
  simp [results, Try.results18, go_sem, h4, h5, c0, c1, c2]
set_option maxHeartbeats 4000000 in
theorem ppop_v (X : Nat → Prop) (B : Nat) (f : Fm) (k : Int) (w : World) (h : Pf16 X w B f) :
    Calls Try.prog 18 #[.pointer (some ⟨B, 0, none⟩), .int .u8 k] w fun e w' => e = .returned (.tuple #[va16 (oV16 f k), .bool (oB16 f k)]) ∧ Up16 Pf16 X w w' B (oF16 f k) := by
  have H0 := Lib.hid h
  obtain ⟨A2, c2, M, L, D, h, x0, x1, x2, x4⟩ := h
  have hm := h.many
  have H := Lib.hid h
  have X1 := Lib.hid x1
  have X2 := Lib.hid x2
  have X4 := Lib.hid x4
  have HT := Lib.hid (ptop_v X B f (w.alloc (.cells #[.int .u8 0, .int .i64 0, .int .i64 0] 33)) (H0.out.keep ((Below.refl _ _).alloc (Nat.le_refl _) _)))
  clear h x1 x2 x4
  go_enter Try.func18, Try.ntmps18
  go_wp2_with fail
  refine HT.out.mono ?_
  rintro e w1 ⟨rfl, hb⟩
  have HB1 : Hid (Below w.heap.size w w1) := Lib.hid (((Below.refl _ _).alloc (Nat.le_refl _) _).trans (hb.mono (by simp)))
  have HP : Hid (w1.heap[w.heap.size]? = some (.cells #[.int .u8 0, .int .i64 0, .int .i64 0] 33 (0, 0))) := Lib.hid ((hb.block _ (by simp)).trans (World.alloc_heap_new _ _))
  have hl1 : w.heap.size < w1.heap.size := (Array.getElem?_eq_some_iff.1 HP.out).1
  clear hb HT
  obtain ⟨⟨t0, t1, t2⟩, ht⟩ : ∃ t, tV16 f = t := ⟨_, rfl⟩
  have HTV := Lib.hid ht
  rw [ht]
  unfold va16
  dsimp only
  clear ht
  have HPX : Hid (¬ X w.heap.size) := Lib.hid (fun h => Nat.lt_irrefl _ (X4.out _ h))
  have HPX1 : Hid (¬ X w1.heap.size) := Lib.hid (fun h => Nat.lt_irrefl _ (Nat.lt_of_lt_of_le (X4.out _ h) HB1.out.size))
  obtain ⟨P0, hP0⟩ : ∃ P0, w.heap.size = P0 := ⟨_, rfl⟩
  have HP0 := Lib.hid hP0
  rw [hP0] at HP HPX hl1 ⊢
  clear hP0
  have p0 : w1.cell? ⟨P0, 0, none⟩ = some (.int .u8 0) := by simp [World.cell?, HP.out]
  have p1 : w1.cell? ⟨P0, 1, none⟩ = some (.int .i64 0) := by simp [World.cell?, HP.out]
  have p2 : w1.cell? ⟨P0, 2, none⟩ = some (.int .i64 0) := by simp [World.cell?, HP.out]
  have r0 : w1.frozen? ⟨P0, 0, none⟩ = false := frozen_of_row w1 P0 0 _ _ HP.out
  have r1 : w1.frozen? ⟨P0, 1, none⟩ = false := frozen_of_row w1 P0 1 _ _ HP.out
  have r2 : w1.frozen? ⟨P0, 2, none⟩ = false := frozen_of_row w1 P0 2 _ _ HP.out
  have HFIN : Hid (∀ (u0 u1 u2 : Value) (o : Obj), Below w.heap.size w ((((w1.setCell ⟨P0, 0, none⟩ u0).setCell ⟨P0, 1, none⟩ u1).setCell ⟨P0, 2, none⟩ u2).alloc o)) := Lib.hid (fun u0 u1 u2 o =>
    (((HB1.out.setCell (p := ⟨P0, 0, none⟩) (Nat.le_of_eq HP0.out) u0).setCell (p := ⟨P0, 1, none⟩) (Nat.le_of_eq HP0.out) u1).setCell (p := ⟨P0, 2, none⟩) (Nat.le_of_eq HP0.out) u2).alloc (by have := HB1.out.size; simp; omega) o)
  cases htb : tB16 f with
  | false =>
    have HO : Hid (oB16 f k = false) := Lib.hid (by rw [oB16, htb]; rfl)
    clear htb
    go_wp2_with fail
    refine pret16 _ _ P0 z16 false _ rfl rfl ((Below.heap_alloc _ _ _ (by simpa using hl1)).trans (box16 HP.out)) ?_
    rw [(oB16_no HO.out).1, (oB16_no HO.out).2, HO.out]
    exact ⟨rfl, X, H0.out.keep (HFIN.out _ _ _ _), Fr11.of_below (X := X) (HFIN.out _ _ _ _) (fun j h1 h2 => by omega), fun _ => .inl⟩
  | true =>
    have HTB := Lib.hid htb
    by_cases hk : k = 0 ∨ k = t0
    · have HO : Hid (oB16 f k = true) := Lib.hid (by
        rw [oB16, htb, HTV.out]
        rcases hk with rfl | rfl <;> simp)
      have HOV : Hid (oV16 f k = (t0, t1, t2)) := Lib.hid (by rw [oV16, if_pos HO.out, HTV.out])
      have HOF : Hid (oF16 f k = { f with s := f.s.dropLast }) := Lib.hid (by rw [oF16, if_pos HO.out])
      have hlen := htb
      rw [tB16, decide_eq_true_eq] at hlen
      obtain ⟨m, hn⟩ : ∃ m, f.s.length = m + 1 := ⟨f.s.length - 1, by omega⟩
      have HN := Lib.hid hn
      have HLM : Hid (f.l.length + (m + 1) ≤ 256) := Lib.hid (by have := hm; unfold n16 at this; omega)
      have hm9 : m ≤ 256 := by have := HLM.out; omega
      clear htb hlen hn hm
      have hkk : k = 0 ∨ (¬ k = 0 ∧ k = t0) := by omega
      have HKK := Lib.hid hkk
      clear hk hkk
      have hg0 := tV16_at HTB.out
      obtain ⟨g, hA, -, -⟩ := val16 H.out.rs hg0
      subst hA
      clear hg0
      have HTAIL : Hid (∀ wa : World, Below w.heap.size w wa → wa.heap[w1.heap.size]? = some (.cells #[.int .u8 t0, .int .i64 t1, .int .i64 t2] 33 (0, 0)) → wa.heap[P0]? = some (.cells #[.int .u8 0, .int .i64 0, .int .i64 0] 33 (0, 0)) → Fr11 (fun _ => False) w wa →
        wa.cell? ⟨B, 50, none⟩ = some (.slice (some ⟨g, 0, none⟩) (m + 1) c2) ∧ wa.frozen? ⟨B, 50, none⟩ = false ∧ ∃ X', Pf16 X' (wa.setCell ⟨B, 50, none⟩ (.slice (some ⟨g, 0, none⟩) m c2)) B (oF16 f k) ∧ Fr11 X wa (wa.setCell ⟨B, 50, none⟩ (.slice (some ⟨g, 0, none⟩) m c2)) ∧ ∀ j, X' j → X j ∨ wa.heap.size ≤ j) := Lib.hid (by
        intro wa hb1 hq1 hq0 hf
        have HAA := H.out.fr hf id id (fun _ _ => id)
        have hrs := HAA.rs
        rw [HN.out] at hrs
        obtain ⟨hB9, hend⟩ := pf16_stack (X := X) (w := wa) (w9 := wa) (s' := f.s.dropLast) (m := m) (N := some ⟨g, 0, none⟩) (cn := c2) (by rw [List.length_dropLast, HN.out]; rfl) (fun y hy => HAA.ok y (by
          rcases List.mem_append.1 hy with hy | hy
          · exact List.mem_append_left _ hy
          · exact List.mem_append_right _ (List.dropLast_subset _ hy))) (by rw [List.length_dropLast, HN.out]; have := HLM.out; omega) HAA x0 X1.out X2.out (fun j hj => Nat.lt_of_lt_of_le (X4.out j hj) hf.size) (Fr11.refl _ _) (pcut16 hrs HN.out) (fun q hq => .inl (by simpa [Value.ownBlock] using hq.symm))
        rw [HOF.out]
        refine ⟨?_, HAA.fz 50, hend⟩
        rw [HAA.c0.2.2.1, HN.out])
      have hcut := cut16 g c2 m (by
        have := (Rv.of_own H.out.rs (fun x hx => H.out.ok x (List.mem_append_right _ hx))).1.2.1
        rw [HN.out] at this
        omega)
      have hwm : IntKind.i64.wrap ((m : Int) + 1 - 1) = m := by rw [IntKind.wrap_i64]; omega
      have HP1 : Hid (w1.heap.size ≠ P0) := Lib.hid (by omega)
      by_cases hk0 : k = 0
      · subst hk0
        go_upto_region 4 with (fail)
        have HBA : Hid (Below w.heap.size w (w1.alloc (.cells #[.int .u8 t0, .int .i64 t1, .int .i64 t2] 33))) := Lib.hid (HB1.out.alloc HB1.out.size _)
        have HQ1 : Hid ((w1.alloc (.cells #[.int .u8 t0, .int .i64 t1, .int .i64 t2] 33)).heap[w1.heap.size]? = some (.cells #[.int .u8 t0, .int .i64 t1, .int .i64 t2] 33 (0, 0))) := Lib.hid (World.alloc_heap_new _ _)
        have HQ0 : Hid ((w1.alloc (.cells #[.int .u8 t0, .int .i64 t1, .int .i64 t2] 33)).heap[P0]? = some (.cells #[.int .u8 0, .int .i64 0, .int .i64 0] 33 (0, 0))) := Lib.hid ((Below.heap_alloc _ _ _ hl1).trans HP.out)
        have HFA : Hid (Fr11 (fun _ => False) w (w1.alloc (.cells #[.int .u8 t0, .int .i64 t1, .int .i64 t2] 33))) := Lib.hid (nb16 HBA.out)
        generalize (w1.alloc (.cells #[.int .u8 t0, .int .i64 t1, .int .i64 t2] 33)) = wa at HBA HQ1 HQ0 HFA ⊢
        clear p0 p1 p2 r0 r1 r2 HFIN HP HB1 hl1
        generalize (w1.heap.size : Nat) = P1 at HQ1 HPX1 HP1 HTAIL ⊢
        obtain ⟨b1, hz, X', e1, e2, e3⟩ := HTAIL.out wa HBA.out HQ1.out HQ0.out HFA.out
        have hlB := cell_lt b1
        have HE1 : Hid (Pf16 X' (wa.setCell ⟨B, 50, none⟩ (.slice (some ⟨g, 0, none⟩) m c2)).drew B (oF16 f 0)) := Lib.hid (e1.fr ((Fr11.refl (fun _ => False) _).drewN 1) (fun _ _ => id))
        have HE2 : Hid (Fr11 X w (wa.setCell ⟨B, 50, none⟩ (.slice (some ⟨g, 0, none⟩) m c2)).drew) := Lib.hid (((HFA.out.mono (fun _ => False.elim)).trans e2 (fun _ _ => id)).drewN 1)
        have HE3 := Lib.hid e3
        have HLP : Hid (P0 < wa.heap.size) := Lib.hid (Array.getElem?_eq_some_iff.1 HQ0.out).1
        have HLS : Hid (w.heap.size ≤ wa.heap.size) := Lib.hid HFA.out.size
        have HZ1 : Hid ((wa.setCell ⟨B, 50, none⟩ (.slice (some ⟨g, 0, none⟩) m c2)).drew.heap[P1]? = some (.cells #[.int .u8 t0, .int .i64 t1, .int .i64 t2] 33 (0, 0))) := Lib.hid ((Below.heap_setCell wa ⟨B, 50, none⟩ _ P1 (fun e => HPX1.out (by rw [show P1 = B from e]; exact x0))).trans HQ1.out)
        have HZ0 : Hid ((wa.setCell ⟨B, 50, none⟩ (.slice (some ⟨g, 0, none⟩) m c2)).drew.heap[P0]? = some (.cells #[.int .u8 0, .int .i64 0, .int .i64 0] 33 (0, 0))) := Lib.hid ((Below.heap_setCell wa ⟨B, 50, none⟩ _ P0 (fun e => HPX.out (by rw [show P0 = B from e]; exact x0))).trans HQ0.out)
        clear e1 e2 e3
        go_region
        go_upto_region 5 with (fail)
        generalize (wa.setCell ⟨B, 50, none⟩ (.slice (some ⟨g, 0, none⟩) m c2)).drew = wz at HE1 HE2 HZ1 HZ0 ⊢
        have d0 := cell_of_box16 (i := 0) HZ1.out rfl
        have d1 := cell_of_box16 (i := 1) HZ1.out rfl
        have d2 := cell_of_box16 (i := 2) HZ1.out rfl
        have z0 := cell_of_box16 (i := 0) HZ0.out rfl
        have z1 := cell_of_box16 (i := 1) HZ0.out rfl
        have z2 := cell_of_box16 (i := 2) HZ0.out rfl
        have y0 : wz.frozen? ⟨P0, 0, none⟩ = false := frozen_of_row wz P0 0 _ _ HZ0.out
        have y1 : wz.frozen? ⟨P0, 1, none⟩ = false := frozen_of_row wz P0 1 _ _ HZ0.out
        have y2 : wz.frozen? ⟨P0, 2, none⟩ = false := frozen_of_row wz P0 2 _ _ HZ0.out
        go_wp2_with fail
        refine pret16 _ _ P0 (t0, t1, t2) true _ rfl rfl (box16 HZ0.out) ?_
        rw [HO.out, HOV.out]
        have hfz : Fr11 (fun j => j = P0) wz (((wz.setCell ⟨P0, 0, none⟩ (.int .u8 t0)).setCell ⟨P0, 1, none⟩ (.int .i64 t1)).setCell ⟨P0, 2, none⟩ (.int .i64 t2)) := (((Fr11.refl (fun j => j = P0) wz).set (p := ⟨P0, 0, none⟩) (.inr rfl) _).set (p := ⟨P0, 1, none⟩) (.inr rfl) _).set (p := ⟨P0, 2, none⟩) (.inr rfl) _
        exact ⟨rfl, X', HE1.out.fr hfz (fun j hj e => by
          subst e
          rcases HE3.out _ hj with h | h
          · exact HPX.out h
          · have := HLP.out; omega), HE2.out.trans hfz (fun j hj e => by have := HP0.out; omega), fun j hj => (HE3.out j hj).imp id (fun h => Nat.le_trans HLS.out h)⟩
      · obtain rfl : k = t0 := by have := HKK.out; omega
        have hk1 : (k != 0) = true := by simpa using hk0
        have hk3 : (k != k) = false := by simp
        go_upto_region 4 with (fail)
        have HBA : Hid (Below w.heap.size w (w1.alloc (.cells #[.int .u8 k, .int .i64 t1, .int .i64 t2] 33))) := Lib.hid (HB1.out.alloc HB1.out.size _)
        have HQ1 : Hid ((w1.alloc (.cells #[.int .u8 k, .int .i64 t1, .int .i64 t2] 33)).heap[w1.heap.size]? = some (.cells #[.int .u8 k, .int .i64 t1, .int .i64 t2] 33 (0, 0))) := Lib.hid (World.alloc_heap_new _ _)
        have HQ0 : Hid ((w1.alloc (.cells #[.int .u8 k, .int .i64 t1, .int .i64 t2] 33)).heap[P0]? = some (.cells #[.int .u8 0, .int .i64 0, .int .i64 0] 33 (0, 0))) := Lib.hid ((Below.heap_alloc _ _ _ hl1).trans HP.out)
        have HFA : Hid (Fr11 (fun _ => False) w (w1.alloc (.cells #[.int .u8 k, .int .i64 t1, .int .i64 t2] 33))) := Lib.hid (nb16 HBA.out)
        generalize (w1.alloc (.cells #[.int .u8 k, .int .i64 t1, .int .i64 t2] 33)) = wa at HBA HQ1 HQ0 HFA ⊢
        clear p0 p1 p2 r0 r1 r2 HFIN HP HB1 hl1
        generalize (w1.heap.size : Nat) = P1 at HQ1 HPX1 HP1 HTAIL ⊢
        obtain ⟨b1, hz, X', e1, e2, e3⟩ := HTAIL.out wa HBA.out HQ1.out HQ0.out HFA.out
        have hlB := cell_lt b1
        have HE1 : Hid (Pf16 X' (wa.setCell ⟨B, 50, none⟩ (.slice (some ⟨g, 0, none⟩) m c2)).drew B (oF16 f k)) := Lib.hid (e1.fr ((Fr11.refl (fun _ => False) _).drewN 1) (fun _ _ => id))
        have HE2 : Hid (Fr11 X w (wa.setCell ⟨B, 50, none⟩ (.slice (some ⟨g, 0, none⟩) m c2)).drew) := Lib.hid (((HFA.out.mono (fun _ => False.elim)).trans e2 (fun _ _ => id)).drewN 1)
        have HE3 := Lib.hid e3
        have HLP : Hid (P0 < wa.heap.size) := Lib.hid (Array.getElem?_eq_some_iff.1 HQ0.out).1
        have HLS : Hid (w.heap.size ≤ wa.heap.size) := Lib.hid HFA.out.size
        have HZ1 : Hid ((wa.setCell ⟨B, 50, none⟩ (.slice (some ⟨g, 0, none⟩) m c2)).drew.heap[P1]? = some (.cells #[.int .u8 k, .int .i64 t1, .int .i64 t2] 33 (0, 0))) := Lib.hid ((Below.heap_setCell wa ⟨B, 50, none⟩ _ P1 (fun e => HPX1.out (by rw [show P1 = B from e]; exact x0))).trans HQ1.out)
        have HZ0 : Hid ((wa.setCell ⟨B, 50, none⟩ (.slice (some ⟨g, 0, none⟩) m c2)).drew.heap[P0]? = some (.cells #[.int .u8 0, .int .i64 0, .int .i64 0] 33 (0, 0))) := Lib.hid ((Below.heap_setCell wa ⟨B, 50, none⟩ _ P0 (fun e => HPX.out (by rw [show P0 = B from e]; exact x0))).trans HQ0.out)
        clear e1 e2 e3
        go_region
        go_upto_region 5 with (fail)
        generalize (wa.setCell ⟨B, 50, none⟩ (.slice (some ⟨g, 0, none⟩) m c2)).drew = wz at HE1 HE2 HZ1 HZ0 ⊢
        have d0 := cell_of_box16 (i := 0) HZ1.out rfl
        have d1 := cell_of_box16 (i := 1) HZ1.out rfl
        have d2 := cell_of_box16 (i := 2) HZ1.out rfl
        have z0 := cell_of_box16 (i := 0) HZ0.out rfl
        have z1 := cell_of_box16 (i := 1) HZ0.out rfl
        have z2 := cell_of_box16 (i := 2) HZ0.out rfl
        have y0 : wz.frozen? ⟨P0, 0, none⟩ = false := frozen_of_row wz P0 0 _ _ HZ0.out
        have y1 : wz.frozen? ⟨P0, 1, none⟩ = false := frozen_of_row wz P0 1 _ _ HZ0.out
        have y2 : wz.frozen? ⟨P0, 2, none⟩ = false := frozen_of_row wz P0 2 _ _ HZ0.out
        go_wp2_with fail
        refine pret16 _ _ P0 (k, t1, t2) true _ rfl rfl (box16 HZ0.out) ?_
        rw [HO.out, HOV.out]
        have hfz : Fr11 (fun j => j = P0) wz (((wz.setCell ⟨P0, 0, none⟩ (.int .u8 k)).setCell ⟨P0, 1, none⟩ (.int .i64 t1)).setCell ⟨P0, 2, none⟩ (.int .i64 t2)) := (((Fr11.refl (fun j => j = P0) wz).set (p := ⟨P0, 0, none⟩) (.inr rfl) _).set (p := ⟨P0, 1, none⟩) (.inr rfl) _).set (p := ⟨P0, 2, none⟩) (.inr rfl) _
        exact ⟨rfl, X', HE1.out.fr hfz (fun j hj e => by
          subst e
          rcases HE3.out _ hj with h | h
          · exact HPX.out h
          · have := HLP.out; omega), HE2.out.trans hfz (fun j hj e => by have := HP0.out; omega), fun j hj => (HE3.out j hj).imp id (fun h => Nat.le_trans HLS.out h)⟩
    · have HO : Hid (oB16 f k = false) := Lib.hid (by rw [oB16, htb, HTV.out]; simp; omega)
      have hk1 : (k != 0) = true := by simp; omega
      have hk2 : (k != t0) = true := by simp; omega
      clear htb hk
      go_wp2_with fail
      refine pret16 _ _ P0 z16 false _ rfl rfl ((Below.heap_alloc _ _ _ (by simpa using hl1)).trans (box16 HP.out)) ?_
      rw [(oB16_no HO.out).1, (oB16_no HO.out).2, HO.out]
      exact ⟨rfl, X, H0.out.keep (HFIN.out _ _ _ _), Fr11.of_below (X := X) (HFIN.out _ _ _ _) (fun j h1 h2 => by omega), fun _ => .inl⟩
end Go.Proofs.Ytkifapnmojfjoaa
