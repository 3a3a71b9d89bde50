/-
  Layer 16: the program's Set, Push, Pop.
-/
import Derived.Test.YtkifapnmojfjoaaUp
import Derived.Test.YtkifapnmojfjoaaLq
namespace Go.Proofs.Ytkifapnmojfjoaa
open Go.RowKit Go.Maps
set_option maxRecDepth 100000
set_option linter.unusedSimpArgs false
set_option linter.unusedVariables false

def pst16 (w : World) (B k : Nat) (x : Vlu) : World := ((w.setCell ⟨B, 1 + k * 3, none⟩ (.int .u8 x.1)).setCell ⟨B, 1 + k * 3 + 1, none⟩ (.int .i64 x.2.1)).setCell ⟨B, 1 + k * 3 + 2, none⟩ (.int .i64 x.2.2)
theorem pst16_fr (w : World) (B k : Nat) (x : Vlu) : Fr11 (fun j => j = B) w (pst16 w B k x) :=
  (((Fr11.refl (fun j => j = B) w).set (p := ⟨B, 1 + k * 3, none⟩) (.inr rfl) _).set (p := ⟨B, 1 + k * 3 + 1, none⟩) (.inr rfl) _).set (p := ⟨B, 1 + k * 3 + 2, none⟩) (.inr rfl) _
theorem pst16_heap {w : World} {B k t : Nat} {s S : Value} {L : List Vlu} {n p : Int} {M : Nat} (x : Vlu) (h : w.heap[B]? = some (.cells (pc16 s L n S p M) t (0, 0))) (hk : k < L.length) :
    (pst16 w B k x).heap[B]? = some (.cells (pc16 s (L.set k x) n S p M) t (0, 0)) := by
  have e1 : (((pc16 s L n S p M).setIfInBounds (1 + k * 3) (.int .u8 x.1)).setIfInBounds (1 + k * 3 + 1) (.int .i64 x.2.1)).setIfInBounds (1 + k * 3 + 2) (.int .i64 x.2.2) = pc16 s (L.set k x) n S p M := by
    rw [pc16, pc16, ← cev_set16 x hk]
    simp only [List.setIfInBounds_toArray]
    rw [show 1 + k * 3 = k * 3 + 1 by omega, show k * 3 + 1 + 1 = (k * 3 + 1) + 1 by rfl, show k * 3 + 1 + 2 = (k * 3 + 2) + 1 by omega, List.set_cons_succ, List.set_cons_succ, List.set_cons_succ, List.set_append_left _ _ (by rw [length_cev]; omega), List.set_append_left _ _ (by rw [List.length_set, length_cev]; omega), List.set_append_left _ _ (by rw [List.length_set, List.length_set, length_cev]; omega)]
  unfold pst16
  rw [heap_setCell_same _ B _ _ _ _ (heap_setCell_same _ B _ _ _ _ (heap_setCell_same w B _ _ _ _ h)), e1]
theorem Pq16.setl {X : Nat → Prop} {w : World} {B k : Nat} {f : Fm} {A : Option Addr} {c M : Nat} {L : List Vlu} {D : DataW Unit} (h : Pq16 w B f A c M L D) (x0 : X B) (x1 : X M) (x2 : ∀ a, A = some a → X a.block) (x3 : ∀ j, X j → j < w.heap.size) (hk : k < f.l.length) {v : Vlu} (hv : VlOk v) :
    Pf16 X (pst16 w B k v) B { f with l := f.l.set k v } ∧ Fr11 X w (pst16 w B k v) := by
  have hs := pst16_fr w B k v
  have hl : (f.l.set k v).length = f.l.length := by simp
  refine ⟨⟨A, c, M, L.set k v, D, ⟨?_, by rw [List.length_set]; exact h.ll, by rw [hl]; exact h.le, ?_, own_fr16 h.rs hs (fun a ha e => h.Bs ha e.symm), ownm_fr16 h.mp hs (fun e => h.BM e.symm), h.md, ?_, ?_, h.tb⟩, x0, x1, x2, fun j hj => Nat.lt_of_lt_of_le (x3 j hj) hs.size⟩, hs.mono fun j hj => by rw [hj]; exact x0⟩
  · show _ = some (Obj.cells (pc16 _ _ ((f.l.set k v).length : Int) _ _ _) _ _)
    rw [hl]
    exact pst16_heap v h.box (by have := h.ll; have := h.le; omega)
  · show (L.set k v).take (f.l.set k v).length = f.l.set k v
    rw [hl, List.take_set, h.pre]
  · intro y hy
    rcases List.mem_append.1 hy with hy | hy
    · rcases List.mem_or_eq_of_mem_set hy with hy | rfl
      · exact h.ok y (List.mem_append_left _ hy)
      · exact hv
    · exact h.ok y (List.mem_append_right _ hy)
  · have := h.many
    unfold n16 at this ⊢
    rw [hl]
    exact this
theorem pf16_stack {X : Nat → Prop} {w w9 : World} {B m : Nat} {f : Fm} {A N : Option Addr} {c cn M : Nat} {L : List Vlu} {D : DataW Unit} {s' : List Vlu} (hm : s'.length = m) (hok : ∀ x ∈ f.l ++ s', VlOk x) (hn : f.l.length + s'.length ≤ 256) (h : Pq16 w B f A c M L D) (x0 : X B) (x1 : X M) (x2 : ∀ a, A = some a → X a.block) (x3 : ∀ j, X j → j < w.heap.size)
    (hf : Fr11 (fun j => some j = (Value.slice A f.s.length c).ownBlock) w w9) (ho : w9.ownsRow 0 33 3 (.slice N m cn) m (cev s'))
    (hb9 : ∀ q, (Value.slice N m cn).ownBlock = some q → some q = (Value.slice A f.s.length c).ownBlock ∨ w.heap.size ≤ q) :
    w9.heap[B]? = some (.cells (pc16 (.pointer (some ⟨B, 0, none⟩)) L f.l.length (.slice A f.s.length c) f.p M) 47 (0, 0)) ∧
    ∃ X', Pf16 X' (w9.setCell ⟨B, 50, none⟩ (.slice N m cn)) B { f with s := s' } ∧ Fr11 X w (w9.setCell ⟨B, 50, none⟩ (.slice N m cn)) ∧ ∀ j, X' j → X j ∨ w.heap.size ≤ j := by
  subst hm
  have hXA : ∀ j, some j = (Value.slice A f.s.length c).ownBlock → X j := fun j hj => by
    cases hA : A with
    | none => rw [hA] at hj; simp [Value.ownBlock] at hj
    | some a =>
      rw [hA] at hj
      have e : j = a.block := by { simpa [Value.ownBlock] using hj }
      rw [e]; exact x2 a hA
  have hBB : ¬ some B = (Value.slice A f.s.length c).ownBlock := fun e => by
    cases hA : A with
    | none => rw [hA] at e; simp [Value.ownBlock] at e
    | some a =>
      rw [hA] at e
      have e : B = a.block := by { simpa [Value.ownBlock] using e }
      exact h.Bs hA e
  have hMM : ¬ some M = (Value.slice A f.s.length c).ownBlock := fun e => by
    cases hA : A with
    | none => rw [hA] at e; simp [Value.ownBlock] at e
    | some a =>
      rw [hA] at e
      have e : M = a.block := by { simpa [Value.ownBlock] using e }
      exact h.sM hA e.symm
  have hB9 := (hf.block _ (Array.getElem?_eq_some_iff.1 h.box).1 hBB).trans h.box
  have hNB : ∀ a, N = some a → ¬ a.block = B := fun a ha e => by
    obtain ⟨cur, hc⟩ := own_ty16 ho ha
    rw [e] at hc
    have := hB9.symm.trans hc
    simp at this
  have hs : Fr11 (fun j => j = B) w9 (w9.setCell ⟨B, 50, none⟩ (.slice N s'.length cn)) := (Fr11.refl (fun j => j = B) w9).set (p := ⟨B, 50, none⟩) (.inr rfl) _
  have hXN : ∀ a, N = some a → X a.block ∨ (w.heap.size ≤ a.block ∧ a.block < w9.heap.size) := fun a ha => by
    obtain ⟨cur, hc⟩ := own_ty16 ho ha
    have hlt := (Array.getElem?_eq_some_iff.1 hc).1
    subst ha
    rcases hb9 a.block rfl with h9 | h9
    · exact .inl (hXA _ h9)
    · exact .inr ⟨h9, hlt⟩
  have hsz := hf.size
  refine ⟨hB9, fun j => X j ∨ (w.heap.size ≤ j ∧ j < w9.heap.size), ⟨N, cn, M, L, D, ⟨?_, h.ll, h.le, h.pre, own_fr16 ho hs (fun a ha => hNB a ha), ownm_fr16 (ownm_fr16 h.mp hf hMM) hs (fun e => h.BM e.symm), h.md, hok, hn, h.tb⟩, .inl x0, .inl x1, hXN, fun j hj => ?_⟩, (hf.mono hXA).trans hs (fun j _ hj => by rw [hj]; exact x0), fun j hj => hj.imp id And.left⟩
  · rw [heap_setCell_same w9 B 50 _ _ _ hB9, pc16_set (j := 1) h.ll]
    rfl
  · have e : (w9.setCell ⟨B, 50, none⟩ (.slice N s'.length cn)).heap.size = w9.heap.size := by simp
    rw [e]
    rcases hj with hj | hj
    · exact Nat.lt_of_lt_of_le (x3 j hj) hsz
    · exact hj.2
set_option maxHeartbeats 4000000 in
theorem pset_v (X : Nat → Prop) (B : Nat) (f : Fm) (i v0 v1 v2 : Int) (w : World) (h : Pf16 X w B f) (hv : VlOk (v0, v1, v2)) :
    Calls Try.prog 20 #[.pointer (some ⟨B, 0, none⟩), .int .i64 i, .agg #[.int .u8 v0, .int .i64 v1, .int .i64 v2]] w fun e w' => e = .returned (.bool (sB16 f i (v0, v1, v2))) ∧ Up16 Pf16 X w w' B (sF16 f i (v0, v1, v2)) := by
  have H0 := Lib.hid h
  obtain ⟨A, c, M, L, D, h, x0, x1, x2, x3⟩ := h
  have H := Lib.hid h
  have X1 := Lib.hid x1
  have X2 := Lib.hid x2
  have X3 := Lib.hid x3
  have HV := Lib.hid hv
  clear h x1 x2 x3 hv
  go_enter Try.func20, Try.ntmps20
  go_upto_region 1 with (fail)
  have HBA : Hid (Below w.heap.size w (w.alloc (.cells #[.int .u8 v0, .int .i64 v1, .int .i64 v2] 33))) := Lib.hid ((Below.refl _ _).alloc (Nat.le_refl _) _)
  have HQ : Hid ((w.alloc (.cells #[.int .u8 v0, .int .i64 v1, .int .i64 v2] 33)).heap[w.heap.size]? = some (.cells #[.int .u8 v0, .int .i64 v1, .int .i64 v2] 33 (0, 0))) := Lib.hid (World.alloc_heap_new _ _)
  have HPX : Hid (¬ X w.heap.size) := Lib.hid (fun h => Nat.lt_irrefl _ (X3.out _ h))
  have XA : Hid (∀ j, X j → j < (w.alloc (.cells #[.int .u8 v0, .int .i64 v1, .int .i64 v2] 33)).heap.size) := Lib.hid (fun j hj => Nat.lt_of_lt_of_le (X3.out j hj) HBA.out.size)
  have HA := Lib.hid (H.out.fr (nb16 HBA.out) id id (fun _ _ => id))
  obtain ⟨wa, hwa⟩ : ∃ wa, w.alloc (.cells #[.int .u8 v0, .int .i64 v1, .int .i64 v2] 33) = wa := ⟨_, rfl⟩
  rw [hwa] at HBA HQ XA HA ⊢
  clear hwa
  obtain ⟨P0, hP0⟩ : ∃ P0, w.heap.size = P0 := ⟨_, rfl⟩
  rw [hP0] at HQ HPX ⊢
  clear hP0
  have q0 : wa.cell? ⟨P0, 0, none⟩ = some (.int .u8 v0) := by simp [World.cell?, HQ.out]
  have q1 : wa.cell? ⟨P0, 1, none⟩ = some (.int .i64 v1) := by simp [World.cell?, HQ.out]
  have q2 : wa.cell? ⟨P0, 2, none⟩ = some (.int .i64 v2) := by simp [World.cell?, HQ.out]
  obtain ⟨b0, b1, -⟩ := HA.out.c0
  cases hg : gB16 f i with
  | true =>
    have HG := Lib.hid hg
    have hb := hg
    simp only [gB16, Bool.and_eq_true, decide_eq_true_eq] at hb
    obtain ⟨h1, h2⟩ := hb
    obtain ⟨k, rfl⟩ : ∃ k : Nat, i = (k : Int) := ⟨i.toNat, by omega⟩
    obtain ⟨a0, a1, a2⟩ := HA.out.cl (k := k) (by omega)
    obtain ⟨⟨y0, y1, y2⟩, hx2⟩ : ∃ x, gV16 f k = x := ⟨_, rfl⟩
    have HX := Lib.hid hx2
    rw [hx2] at a0 a1 a2
    dsimp only at a0 a1 a2
    have f0 := HA.out.fz (1 + k * 3)
    have f1 := HA.out.fz (1 + k * 3 + 1)
    have f2 := HA.out.fz (1 + k * 3 + 2)
    have HL := Lib.hid (plocal_yes B k f.l.length _ b0 b1 (by omega) HA.out.le)
    have HKL : Hid (k < f.l.length) := Lib.hid (by omega)
    clear hg hx2 b0 b1 h1 h2
    go_wp2_with fail
    refine HL.out.mono ?_
    rintro e w1 ⟨rfl, rfl⟩
    by_cases hk : y0 = v0
    · subst hk
      have HS : Hid (sB16 f k (y0, v1, v2) = true) := Lib.hid (by rw [sB16, HG.out, HX.out]; simp)
      have HF : Hid (sF16 f k (y0, v1, v2) = { f with l := f.l.set k (y0, v1, v2) }) := Lib.hid (by rw [sF16, if_pos HS.out, Int.toNat_natCast])
      have HE := fun q => Lib.hid (Pq16.setl (w := w1.drewN q) (HA.out.fr ((Fr11.refl (fun _ => False) w1).drewN q) id id (fun _ _ => id)) x0 X1.out X2.out (fun j hj => Nat.lt_of_lt_of_le (XA.out j hj) ((Fr11.refl (fun _ => False) w1).drewN q).size) HKL.out HV.out)
      go_upto_region 2 with (fail)
      go_quiet (fail)
      go_wp2_with fail
      go_ret
      rw [HS.out, HF.out]
      exact ⟨rfl, X, (HE _).out.1, ((Fr11.of_below (X := X) HBA.out (fun j h1 h2 => by omega)).drewN _).trans (HE _).out.2 (fun _ _ => id), fun _ => .inl⟩
    · have HS : Hid (sB16 f k (v0, v1, v2) = false) := Lib.hid (by rw [sB16, HG.out, HX.out]; simpa using hk)
      have HF : Hid (sF16 f k (v0, v1, v2) = f) := Lib.hid (by rw [sF16, if_neg (by rw [HS.out]; decide)])
      have hk2 : (y0 == v0) = false := by simpa using hk
      go_upto_region 2 with (fail)
      go_quiet (fail)
      go_wp2_with fail
      go_ret
      rw [HS.out, HF.out]
      exact ⟨rfl, X, H0.out.keep (below_draws HBA.out _), Fr11.of_below (X := X) (below_draws HBA.out _) (fun j h1 h2 => by omega), fun _ => .inl⟩
  | false =>
    have HS : Hid (sB16 f i (v0, v1, v2) = false) := Lib.hid (by rw [sB16, hg]; rfl)
    have HF : Hid (sF16 f i (v0, v1, v2) = f) := Lib.hid (by rw [sF16, if_neg (by rw [HS.out]; decide)])
    simp only [gB16, Bool.and_eq_false_iff, decide_eq_false_iff_not] at hg
    have HL := Lib.hid (plocal_no B f.l.length i _ b0 b1 (by omega))
    clear hg b0 b1
    go_wp2_with fail
    refine HL.out.mono ?_
    rintro e w1 ⟨rfl, rfl⟩
    go_upto_region 2 with (fail)
    go_quiet (fail)
    go_wp2_with fail
    go_ret
    rw [HS.out, HF.out]
    exact ⟨rfl, X, H0.out.keep (below_draws HBA.out _), Fr11.of_below (X := X) (below_draws HBA.out _) (fun j h1 h2 => by omega), fun _ => .inl⟩
set_option maxHeartbeats 4000000 in
theorem ppush_v (X : Nat → Prop) (B : Nat) (f : Fm) (v0 v1 v2 : Int) (w : World) (h : Pf16 X w B f) (hv : VlOk (v0, v1, v2)) :
    Calls Try.prog 21 #[.pointer (some ⟨B, 0, none⟩), .agg #[.int .u8 v0, .int .i64 v1, .int .i64 v2]] w fun e w' => e = .returned (.bool (pB16 f (v0, v1, v2))) ∧ Up16 Pf16 X w w' B (pF16 f (v0, v1, v2)) := by
  have H0 := Lib.hid h
  obtain ⟨A2, c2, M, L, D, h, x0, x1, x2, x3⟩ := h
  have hm := h.many
  have H := Lib.hid h
  have X1 := Lib.hid x1
  have X2 := Lib.hid x2
  have X4 := Lib.hid x3
  have HV := Lib.hid hv
  have HK := fun w => Lib.hid (ppossible_v v0 w)
  clear h x1 x2 x3 hv
  go_enter Try.func21, Try.ntmps21
  go_upto_region 1 with (fail)
  have HBA : Hid (Below w.heap.size w (w.alloc (.cells #[.int .u8 v0, .int .i64 v1, .int .i64 v2] 33))) := Lib.hid ((Below.refl _ _).alloc (Nat.le_refl _) _)
  have HQ : Hid ((w.alloc (.cells #[.int .u8 v0, .int .i64 v1, .int .i64 v2] 33)).heap[w.heap.size]? = some (.cells #[.int .u8 v0, .int .i64 v1, .int .i64 v2] 33 (0, 0))) := Lib.hid (World.alloc_heap_new _ _)
  have HPX : Hid (¬ X w.heap.size) := Lib.hid (fun h => Nat.lt_irrefl _ (X4.out _ h))
  have XA : Hid (∀ j, X j → j < (w.alloc (.cells #[.int .u8 v0, .int .i64 v1, .int .i64 v2] 33)).heap.size) := Lib.hid (fun j hj => Nat.lt_of_lt_of_le (X4.out j hj) HBA.out.size)
  have HA := Lib.hid (H.out.fr (nb16 HBA.out) id id (fun _ _ => id))
  obtain ⟨wa, hwa⟩ : ∃ wa, w.alloc (.cells #[.int .u8 v0, .int .i64 v1, .int .i64 v2] 33) = wa := ⟨_, rfl⟩
  rw [hwa] at HBA HQ XA HA ⊢
  clear hwa
  have hws := HBA.out.size
  obtain ⟨P0, hP0⟩ : ∃ P0, w.heap.size = P0 := ⟨_, rfl⟩
  have HP0 := Lib.hid hP0
  rw [hP0] at HQ HPX ⊢
  clear hP0 hws
  have q0 : wa.cell? ⟨P0, 0, none⟩ = some (.int .u8 v0) := by simp [World.cell?, HQ.out]
  have q1 : wa.cell? ⟨P0, 1, none⟩ = some (.int .i64 v1) := by simp [World.cell?, HQ.out]
  have q2 : wa.cell? ⟨P0, 2, none⟩ = some (.int .i64 v2) := by simp [World.cell?, HQ.out]
  have HSZ := Lib.hid (psize_v X B f wa ⟨A2, c2, M, L, D, HA.out, x0, X1.out, X2.out, XA.out⟩)
  have HM := Lib.hid (pmade_v B wa HA.out.c0.1)
  obtain ⟨nn, hnn⟩ : ∃ nn, n16 f = nn := ⟨_, rfl⟩
  rw [hnn] at HSZ hm
  have HNN := Lib.hid hnn
  clear hnn
  go_wp2_with fail
  refine HM.out.mono ?_
  rintro e w1 ⟨rfl, rfl⟩
  go_wp2_with fail
  refine HSZ.out.mono ?_
  rintro e w2 ⟨rfl, hb⟩
  have HBW := Lib.hid (HBA.out.trans (hb.mono HBA.out.size))
  have HX4 : Hid (∀ j, X j → j < w2.heap.size) := Lib.hid (fun j hj => Nat.lt_of_lt_of_le (XA.out j hj) hb.size)
  have HA2 := Lib.hid (HA.out.fr (nb16 hb) id id (fun _ _ => id))
  have K := fun {p : Addr} {u : Value} (h : w1.cell? p = some u) => (hb.cell (cell_lt h)).trans h
  have q0 := K q0
  have q1 := K q1
  have q2 := K q2
  clear K hb HSZ HA HBA HQ XA HM
  rename Hid (∀ j, X j → j < w2.heap.size) => X4
  rename_i X4'
  by_cases hlt : nn = 256
  · subst hlt
    have HS : Hid (pB16 f (v0, v1, v2) = false) := Lib.hid (by rw [pB16, HNN.out, decide_eq_false (by omega), Bool.and_false])
    have HF : Hid (pF16 f (v0, v1, v2) = f) := Lib.hid (by rw [pF16, if_neg (by rw [HS.out]; decide)])
    go_wp2_with fail
    go_ret
    rw [HS.out, HF.out]
    exact ⟨rfl, X, H0.out.keep HBW.out, Fr11.of_below (X := X) HBW.out (fun j h1 h2 => by omega), fun _ => .inl⟩
  · have hlt2 : ((nn : Int) == 256) = false := by simp; omega
    have HK2 := HK w2
    cases hkd : kd16 v0 with
    | false =>
      have HS : Hid (pB16 f (v0, v1, v2) = false) := Lib.hid (by rw [pB16, hkd]; rfl)
      have HF : Hid (pF16 f (v0, v1, v2) = f) := Lib.hid (by rw [pF16, if_neg (by rw [HS.out]; decide)])
      rw [hkd] at HK2
      clear hkd
      go_wp2_with fail
      refine HK2.out.mono ?_
      rintro e w3 ⟨rfl, rfl⟩
      go_wp2_with fail
      go_ret
      rw [HS.out, HF.out]
      exact ⟨rfl, X, H0.out.keep HBW.out, Fr11.of_below (X := X) HBW.out (fun j h1 h2 => by omega), fun _ => .inl⟩
    | true =>
      have HKD := Lib.hid hkd
      have HS : Hid (pB16 f (v0, v1, v2) = true) := Lib.hid (by rw [pB16, HNN.out, HKD.out, decide_eq_true (by omega)]; rfl)
      have HF : Hid (pF16 f (v0, v1, v2) = { f with s := f.s ++ [(v0, v1, v2)] }) := Lib.hid (by rw [pF16, if_pos HS.out])
      obtain ⟨n, hn⟩ : ∃ n, f.s.length = n := ⟨_, rfl⟩
      have b1 := HA2.out.c0.2.2.1
      rw [hn] at b1
      have HN := Lib.hid hn
      have HLT : Hid (f.l.length + (n + 1) ≤ 256) := Lib.hid (by have h1 := HNN.out; unfold n16 at h1; omega)
      have hn9 : n ≤ 256 := by have := HLT.out; omega
      rw [hkd] at HK2
      clear hn hkd
      go_wp2_with fail
      refine HK2.out.mono ?_
      rintro e w3 ⟨rfl, rfl⟩
      go_upto_region 3 with (fail)
      refine wp_region_L [10] (S := fun w' => w'.cell? ⟨B, 50, none⟩ = some (.slice A2 n c2) ∧ w'.cell? ⟨P0, 0, none⟩ = some (.int .u8 v0) ∧ w'.cell? ⟨P0, 1, none⟩ = some (.int .i64 v1) ∧ w'.cell? ⟨P0, 2, none⟩ = some (.int .i64 v2)) (by kernel_rfl) (⟨b1, q0, q1, q2⟩) (fun hHeld => ?_)
      refine wpL_reckon (i := 0) (v := ?_) rfl (by kernel_rfl) (fun _ _ _ h => h) (Or.inl ⟨by rfl, ?_⟩) (Or.inr (by assumption)) ?_
      rotate_left 1
      · intro w _; go_simp; try with_reducible rfl
      try simp only [Act.put, List.getElem_toArray, List.getElem_cons_zero, List.getElem_cons_succ, List.setIfInBounds_toArray, List.set_cons_zero, List.set_cons_succ]
      refine wpL_reckon (i := 1) (v := ?_) rfl (by kernel_rfl) (fun _ _ _ h => h) (Or.inl ⟨by rfl, ?_⟩) (Or.inr (by assumption)) ?_
      rotate_left 1
      · intro w _; go_simp; try with_reducible rfl
      try simp only [Act.put, List.getElem_toArray, List.getElem_cons_zero, List.getElem_cons_succ, List.setIfInBounds_toArray, List.set_cons_zero, List.set_cons_succ]
      refine wpL_reckon (i := 2) (v := ?_) rfl (by kernel_rfl) (fun _ _ _ h => h) (Or.inl ⟨by rfl, ?_⟩) (Or.inr (by assumption)) ?_
      rotate_left 1
      · intro w _; go_simp; try with_reducible rfl
      try simp only [Act.put, List.getElem_toArray, List.getElem_cons_zero, List.getElem_cons_succ, List.setIfInBounds_toArray, List.set_cons_zero, List.set_cons_succ]
      refine wpL_reckon (i := 3) (v := ?_) rfl (by kernel_rfl) (fun _ _ _ h => h) (Or.inl ⟨by rfl, ?_⟩) (Or.inr (by assumption)) ?_
      rotate_left 1
      · intro w _; go_simp; try with_reducible rfl
      try simp only [Act.put, List.getElem_toArray, List.getElem_cons_zero, List.getElem_cons_succ, List.setIfInBounds_toArray, List.set_cons_zero, List.set_cons_succ]
      refine wpL_take (i := 4) (v := ?_) rfl (by kernel_rfl) (fun _ _ _ h => h) (Or.inl ⟨by rfl, ?_⟩) (by assumption) ?_
      rotate_left 1
      · intro w hSw; (try dsimp only at hSw); obtain ⟨s1, s2, s3, s4⟩ := hSw; go_simp; try with_reducible rfl
      try simp only [Act.put, List.getElem_toArray, List.getElem_cons_zero, List.getElem_cons_succ, List.setIfInBounds_toArray, List.set_cons_zero, List.set_cons_succ]
      refine wpL_take (i := 5) (v := ?_) rfl (by kernel_rfl) (fun _ _ _ h => h) (Or.inl ⟨by rfl, ?_⟩) (by assumption) ?_
      rotate_left 1
      · intro w hSw; (try dsimp only at hSw); obtain ⟨s1, s2, s3, s4⟩ := hSw; go_simp; try with_reducible rfl
      try simp only [Act.put, List.getElem_toArray, List.getElem_cons_zero, List.getElem_cons_succ, List.setIfInBounds_toArray, List.set_cons_zero, List.set_cons_succ]
      refine wpL_ready (rs := [6]) (by kernel_rfl) (by simp) ?_
      refine AllL.cons rfl (fun K hK => ?_) AllL.nil
      go_simp
      have HF2 : Hid (Fr11 (fun _ => False) w3 (w3.alloc (.cells #[.int .u8 v0, .int .i64 v1, .int .i64 v2] 33)).drew) := Lib.hid (((Fr11.refl _ _).alloc _).drewN 1)
      have HR2 := Lib.hid (rv_new w3 (v0, v1, v2) HV.out)
      have K2 := fun {p : Addr} {u : Value} (h : w3.cell? p = some u) => (World.cell?_of_block (HF2.out.block p.block (cell_lt h) id)).trans h
      have b1b := K2 b1
      have q0b := K2 q0
      have q1b := K2 q1
      have q2b := K2 q2
      change Hid (Rv (w3.alloc (.cells #[.int .u8 v0, .int .i64 v1, .int .i64 v2] 33)).drew _ _ _) at HR2
      have HS2 : Hid (w3.heap.size ≤ (w3.alloc (.cells #[.int .u8 v0, .int .i64 v1, .int .i64 v2] 33)).drew.heap.size) := Lib.hid HF2.out.size
      clear K2
      generalize (w3.alloc (.cells #[.int .u8 v0, .int .i64 v1, .int .i64 v2] 33)).drew = wb at HF2 HR2 b1b q0b q1b q2b HS2 ⊢
      generalize w3.heap.size = P2 at HR2 ⊢
      refine hK.out _ _ (⟨b1b, q0b, q1b, q2b⟩) (fun hHeld => ?_)
      clear hK K
      try simp only [Act.put, List.getElem_toArray, List.getElem_cons_zero, List.getElem_cons_succ, List.setIfInBounds_toArray, List.set_cons_zero, List.set_cons_succ]
      refine wpL_ready (rs := [7]) (by kernel_rfl) (by simp) ?_
      refine AllL.cons rfl (fun K hK => ?_) AllL.nil
      have HO2 := Lib.hid (own_fr16 HA2.out.rs HF2.out (fun _ _ => id))
      rw [HN.out] at HO2
      refine step_append_rvgb rfl (.tmp 23) (.tmp 25) rfl (.slice A2 n c2) n f.s rfl HO2.out ⟨P2, 0, none⟩ 1 1 [(v0, v1, v2)] rfl HR2.out (by omega) rfl (by omega) ?_
      intro A9 c9 w9 ho9 hg9 hb9
      rw [← HN.out] at hg9
      have hf9 : Fr11 (fun j => some j = (Value.slice A2 f.s.length c2).ownBlock) w3 w9 := (HF2.out.mono fun _ => False.elim).trans (Fr11.of_grown (X := fun j => some j = (Value.slice A2 f.s.length c2).ownBlock) hg9 fun j hj => hj) fun _ _ => id
      obtain ⟨hB9, hend⟩ := pf16_stack (s' := f.s ++ [(v0, v1, v2)]) (by rw [List.length_append, HN.out]; rfl) (by
        intro y hy
        rw [← List.append_assoc] at hy
        rcases List.mem_append.1 hy with hy | hy
        · exact HA2.out.ok y hy
        · rw [List.mem_singleton.1 hy]; exact HV.out) (by rw [List.length_append, HN.out]; exact HLT.out) HA2.out x0 X1.out X2.out X4.out hf9 ho9 (hb16 (hb9.imp (fun h => h.trans (by rw [HN.out])) fun h => ⟨_, HS2.out, h⟩))
      have HEND := Lib.hid hend
      have b1c : w9.cell? ⟨B, 50, none⟩ = some (.slice A2 n c2) := by rw [cell_of_box16 hB9 (pc16_e (j := 1) HA2.out.ll), ← HN.out]
      have hz9 : w9.frozen? ⟨B, 50, none⟩ = false := frozen_of_row w9 B 50 _ _ hB9
      have K9 := fun {p : Addr} {u : Value} (hne : ¬ X p.block) (h : wb.cell? p = some u) => (World.cell?_of_block (hg9.block p.block (cell_lt h) (fun e => hne (by
        have e2 : some p.block = (Value.slice A2 f.s.length c2).ownBlock := e
        cases hA2 : A2 with
        | none => rw [hA2] at e2; simp [Value.ownBlock] at e2
        | some a => rw [hA2] at e2; have e3 : p.block = a.block := by { simpa [Value.ownBlock] using e2 }; rw [e3]; exact X2.out a hA2)))).trans h
      have q0c := K9 HPX.out q0b
      have q1c := K9 HPX.out q1b
      have q2c := K9 HPX.out q2b
      clear K9 HF2 HR2 HO2 b1b q0b q1b q2b ho9 hg9 hb9 hf9 hB9 hend HS2
      refine hK.out _ _ (⟨b1c, q0c, q1c, q2c⟩) (fun hHeld => ?_)
      clear hK K
      try simp only [Act.put, List.getElem_toArray, List.getElem_cons_zero, List.getElem_cons_succ, List.setIfInBounds_toArray, List.set_cons_zero, List.set_cons_succ]
      refine wpL_reckon (i := 8) (v := ?_) rfl (by kernel_rfl) (fun _ _ _ h => h) (Or.inl ⟨by rfl, ?_⟩) (Or.inr (by assumption)) ?_
      rotate_left 1
      · intro w _; go_simp; try with_reducible rfl
      try simp only [Act.put, List.getElem_toArray, List.getElem_cons_zero, List.getElem_cons_succ, List.setIfInBounds_toArray, List.set_cons_zero, List.set_cons_succ]
      refine wpL_reckon (i := 9) (v := ?_) rfl (by kernel_rfl) (fun _ _ _ h => h) (Or.inl ⟨by rfl, ?_⟩) (Or.inr (by assumption)) ?_
      rotate_left 1
      · intro w _; go_simp; try with_reducible rfl
      try simp only [Act.put, List.getElem_toArray, List.getElem_cons_zero, List.getElem_cons_succ, List.setIfInBounds_toArray, List.set_cons_zero, List.set_cons_succ]
      refine wpL_ready (rs := [10]) (by kernel_rfl) (by simp) ?_
      refine AllL.late rfl (by kernel_rfl) (fun K hK => ?_) AllL.nil
      go_simp
      refine hK.out _ _ ?_
      clear hK K
      try simp only [Act.put, List.getElem_toArray, List.getElem_cons_zero, List.getElem_cons_succ, List.setIfInBounds_toArray, List.set_cons_zero, List.set_cons_succ]
      refine wpL_done (by kernel_rfl) ?_ _
      go_wp2_with fail
      go_ret
      rw [HS.out, HF.out]
      obtain ⟨X', e1, e2, e3⟩ := HEND.out
      exact ⟨rfl, X', e1, (Fr11.of_below (X := X) HBW.out (fun j h1 h2 => by omega)).trans e2 (fun _ _ => id), fun j hj => (e3 j hj).imp id (fun h => Nat.le_trans HBW.out.size h)⟩
end Go.Proofs.Ytkifapnmojfjoaa
