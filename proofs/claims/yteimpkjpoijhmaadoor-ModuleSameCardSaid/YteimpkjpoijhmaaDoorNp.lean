/-
  Layer 8, package module: what the readers of the parts answer, one after the other; all in memory of the call's own.
-/
import Derived.Test.YteimpkjpoijhmaaDoorNm
namespace Go.Proofs.YteimpkjpoijhmaaDoor
open Go.RowKit
set_option maxRecDepth 100000
set_option linter.unusedSimpArgs false
set_option linter.unusedVariables false

/-- The rows of a module, in memory of the call's own. -/
def Oq (w : World) (lo : Nat) (y : Ma) (d : Md) : Prop :=
  w.ownsRow lo 67 3 (.slice y.G d.g.length y.gc) d.g.length (cev d.g) ∧ w.ownsRow lo 67 3 (.slice y.P d.p.length y.pc) d.p.length (cev d.p) ∧
  w.ownsRow lo 49 8 (.slice y.A d.s.length y.c) d.s.length (cem y.Z) ∧ (∀ z ∈ y.Z, Wz w lo z) ∧ y.Z.map ze = d.s ∧ (∀ x ∈ d.g, VlOk x) ∧ (∀ x ∈ d.p, VlOk x) ∧ -9223372036854775808 ≤ d.i ∧ d.i ≤ 9223372036854775807
theorem Wz.low {w : World} {lo : Nat} {z : Me} (h : Wz w lo z) {q : Addr} (hp : q.block < lo) (u : Value) : Wz (w.setCell q u) lo z := ⟨h.1, ownsRow_setCell_below h.2.1 hp u, ownsRow_setCell_below h.2.2.1 hp u, ownsRow_setCell_below h.2.2.2 hp u⟩
theorem Wz.base {w : World} {lo lo2 : Nat} {z : Me} (h : Wz w lo z) (hl : lo2 ≤ lo) : Wz w lo2 z := ⟨h.1, own_base h.2.1 hl, own_base h.2.2.1 hl, own_base h.2.2.2 hl⟩
section
variable {w w' : World} {lo lo2 hi : Nat} {y : Ma} {d : Md}
theorem Oq.keep (h : Oq w lo y d) (hb : Below w.heap.size w w') : Oq w' lo y d := ⟨own_below h.1 hb (Nat.le_refl _), own_below h.2.1 hb (Nat.le_refl _), own_below h.2.2.1 hb (Nat.le_refl _), fun z hz => (h.2.2.2.1 z hz).keep hb, h.2.2.2.2⟩
theorem Oq.low (h : Oq w lo y d) {q : Addr} (hp : q.block < lo) (u : Value) : Oq (w.setCell q u) lo y d := ⟨ownsRow_setCell_below h.1 hp u, ownsRow_setCell_below h.2.1 hp u, ownsRow_setCell_below h.2.2.1 hp u, fun z hz => (h.2.2.2.1 z hz).low hp u, h.2.2.2.2⟩
theorem Oq.hq (h : Oq w lo y d) : Hq w y d := ⟨(Rv.of_own h.1 h.2.2.2.2.2.1).1, (Rv.of_own h.2.1 h.2.2.2.2.2.2.1).1, (Rm.of_own h.2.2.1 (fun z hz => (h.2.2.2.1 z hz).ok)).1, h.2.2.2.2.1, h.2.2.2.2.2.2.2⟩
theorem Oq.ow (h : Oq w lo y d) (h1 : lo2 ≤ lo) (h2 : w.heap.size ≤ hi) : Ow w lo2 hi y d := ⟨Rs.of_own h.1 h1 h2, Rs.of_own h.2.1 h1 h2, Rs.of_own h.2.2.1 h1 h2, fun z hz => (h.2.2.2.1 z hz).ow h1 h2⟩
theorem Oq.zero (w : World) (lo : Nat) : Oq w lo Ma.zero Md.zero := ⟨World.ownsRow_nil _ _ _ _, World.ownsRow_nil _ _ _ _, World.ownsRow_nil _ _ _ _, fun z hz => (by cases hz), rfl, fun x hx => (by cases hx), fun x hx => (by cases hx), by decide, by decide⟩
end
/-- What stays amid Parse. -/
def Pc (w0 : World) (N M B : Nat) (A : Option Addr) (c n : Nat) (l : List Int) : Prop := fWM.p w0 ∧ Rd w0 A c l ∧ l.length = n ∧ w0.heap.size ≤ N ∧ N < M ∧ M < B
/-- The readers of the parts, as parts lays them. -/
def Fs (w : World) (B : Nat) : Prop := B + 5 < w.heap.size ∧
  w.cell? ⟨B + 5, 0, none⟩ = some (.func (.func 75) #[] #[.pointer (some ⟨B, 0, none⟩), .pointer (some ⟨B + 2, 0, none⟩), .pointer (some ⟨B + 1, 0, none⟩)]) ∧
  w.cell? ⟨B + 5, 1, none⟩ = some (.func (.func 77) #[] #[.pointer (some ⟨B, 0, none⟩), .pointer (some ⟨B + 2, 0, none⟩), .pointer (some ⟨B + 1, 0, none⟩)]) ∧
  w.cell? ⟨B + 5, 2, none⟩ = some (.func (.func 78) #[] #[.pointer (some ⟨B, 0, none⟩), .pointer (some ⟨B + 2, 0, none⟩), .pointer (some ⟨B + 3, 0, none⟩)]) ∧
  w.cell? ⟨B + 5, 3, none⟩ = some (.func (.func 80) #[] #[.pointer (some ⟨B, 0, none⟩), .pointer (some ⟨B + 2, 0, none⟩), .pointer (some ⟨B + 3, 0, none⟩), .pointer (some ⟨B + 1, 0, none⟩)]) ∧
  w.cell? ⟨B + 5, 4, none⟩ = some (.func (.func 82) #[] #[.pointer (some ⟨B, 0, none⟩), .pointer (some ⟨B + 2, 0, none⟩), .pointer (some ⟨B + 4, 0, none⟩), .pointer (some ⟨B + 1, 0, none⟩)]) ∧
  w.cell? ⟨B + 5, 5, none⟩ = some (.func (.func 84) #[] #[.pointer (some ⟨B + 2, 0, none⟩), .pointer (some ⟨B, 0, none⟩)])
theorem Fs.keep {w w' : World} {B : Nat} (h : Fs w B) (hb : Below w.heap.size w w') : Fs w' B := by
  obtain ⟨h0, h1, h2, h3, h4, h5, h6⟩ := h
  obtain ⟨hc, hf⟩ := bcell hb
  exact ⟨Nat.lt_of_lt_of_le h0 hb.size, (hc _ _ h0).trans h1, (hc _ _ h0).trans h2, (hc _ _ h0).trans h3, (hc _ _ h0).trans h4, (hc _ _ h0).trans h5, (hc _ _ h0).trans h6⟩
theorem Fs.other {w : World} {B : Nat} (h : Fs w B) {p : Addr} (hp : p.block ≠ B + 5) (v : Value) : Fs (w.setCell p v) B := by
  obtain ⟨h0, h1, h2, h3, h4, h5, h6⟩ := h
  have ne : ∀ i, p ≠ (⟨B + 5, i, none⟩ : Addr) := fun i e => hp (by rw [e])
  refine ⟨by simpa using h0, ?_, ?_, ?_, ?_, ?_, ?_⟩ <;> (rw [World.cell?_setCell_other _ _ _ _ (ne _)]; assumption)
/-- Amid Parse: the result's block N, the module's M, the boxes and variables from B on. -/
def Pq (w0 w : World) (N M B : Nat) (A : Option Addr) (c n : Nat) (l : List Int) (p k t : Int) (y : Ma) (d : Md) : Prop :=
  Below w0.heap.size w0 w ∧ ((Mf w N ∧ Db w N Ma.zero Md.zero) ∧ Fs w B) ∧ (Mf w M ∧ Db w M y d) ∧ C1 w B (.slice A n c) ∧ C1 w (B + 1) (.pointer (some ⟨M, 0, none⟩)) ∧ C1 w (B + 2) (.int .i64 p) ∧ C1 w (B + 3) (.int .i64 k) ∧ C1 w (B + 4) (.int .i64 t) ∧ Oq w (B + 6) y d ∧ B + 6 ≤ w.heap.size ∧ w0.heap.size ≤ N ∧ N < M ∧ M < B
section
variable {w0 w w' : World} {N M B : Nat} {A : Option Addr} {c n : Nat} {l : List Int} {p k t : Int} {y : Ma} {d : Md}
theorem Pq.call (h : Pq w0 w N M B A c n l p k t y d) (hb : Below w.heap.size w w') : Pq w0 w' N M B A c n l p k t y d := by
  obtain ⟨h1, h2, h3, h4, h5, h6, h7, h8, h9, h10, h11⟩ := h
  exact ⟨h1.trans (hb.mono h1.size), ⟨⟨h2.1.1.keep hb, h2.1.2.keep hb⟩, h2.2.keep hb⟩, ⟨h3.1.keep hb, h3.2.keep hb⟩, h4.keep hb, h5.keep hb, h6.keep hb, h7.keep hb, h8.keep hb, h9.keep hb, Nat.le_trans h10 hb.size, h11⟩
theorem Pq.drew (h : Pq w0 w N M B A c n l p k t y d) : Pq w0 w.drew N M B A c n l p k t y d := h.call (below_draws (Below.refl _ _) 1)
theorem Pq.drewN (h : Pq w0 w N M B A c n l p k t y d) (m : Nat) : Pq w0 (w.drewN m) N M B A c n l p k t y d := h.call (below_draws (Below.refl _ _) m)
theorem Pq.gw (h : Pq w0 w N M B A c n l p k t y d) (hc : Pc w0 N M B A c n l) : fWM.p w := fWM.keep _ _ hc.1 h.1
theorem Pq.rd (h : Pq w0 w N M B A c n l p k t y d) (hc : Pc w0 N M B A c n l) : Rd w A c l := hc.2.1.keep h.1
/-- A store to a variable behind B: what else stays. -/
theorem Pq.setp (h : Pq w0 w N M B A c n l p k t y d) (hc : Pc w0 N M B A c n l) (q : Int) : Pq w0 (w.setCell ⟨B + 2, 0, none⟩ (.int .i64 q)) N M B A c n l q k t y d := by
  obtain ⟨h1, h2, h3, h4, h5, h6, h7, h8, h9, h10, h11⟩ := h
  refine ⟨h1.setCell (show w0.heap.size ≤ B + 2 by omega) _, ⟨⟨h2.1.1.set _ _, h2.1.2.other (show B + 2 ≠ N by omega) _⟩, h2.2.other (show B + 2 ≠ B + 5 by omega) _⟩, ⟨h3.1.set _ _, h3.2.other (show B + 2 ≠ M by omega) _⟩, h4.other (show B + 2 ≠ B by omega) _, h5.other (show B + 2 ≠ B + 1 by omega) _, h6.set _, h7.other (show B + 2 ≠ B + 3 by omega) _, h8.other (show B + 2 ≠ B + 4 by omega) _, h9.low (show B + 2 < B + 6 by omega) _, by simpa using h10, h11⟩
theorem Pq.setk (h : Pq w0 w N M B A c n l p k t y d) (q : Int) : Pq w0 (w.setCell ⟨B + 3, 0, none⟩ (.int .i64 q)) N M B A c n l p q t y d := by
  obtain ⟨h1, h2, h3, h4, h5, h6, h7, h8, h9, h10, h11⟩ := h
  refine ⟨h1.setCell (show w0.heap.size ≤ B + 3 by omega) _, ⟨⟨h2.1.1.set _ _, h2.1.2.other (show B + 3 ≠ N by omega) _⟩, h2.2.other (show B + 3 ≠ B + 5 by omega) _⟩, ⟨h3.1.set _ _, h3.2.other (show B + 3 ≠ M by omega) _⟩, h4.other (show B + 3 ≠ B by omega) _, h5.other (show B + 3 ≠ B + 1 by omega) _, h6.other (show B + 3 ≠ B + 2 by omega) _, h7.set _, h8.other (show B + 3 ≠ B + 4 by omega) _, h9.low (show B + 3 < B + 6 by omega) _, by simpa using h10, h11⟩
theorem Pq.sett (h : Pq w0 w N M B A c n l p k t y d) (q : Int) : Pq w0 (w.setCell ⟨B + 4, 0, none⟩ (.int .i64 q)) N M B A c n l p k q y d := by
  obtain ⟨h1, h2, h3, h4, h5, h6, h7, h8, h9, h10, h11⟩ := h
  refine ⟨h1.setCell (show w0.heap.size ≤ B + 4 by omega) _, ⟨⟨h2.1.1.set _ _, h2.1.2.other (show B + 4 ≠ N by omega) _⟩, h2.2.other (show B + 4 ≠ B + 5 by omega) _⟩, ⟨h3.1.set _ _, h3.2.other (show B + 4 ≠ M by omega) _⟩, h4.other (show B + 4 ≠ B by omega) _, h5.other (show B + 4 ≠ B + 1 by omega) _, h6.other (show B + 4 ≠ B + 2 by omega) _, h7.other (show B + 4 ≠ B + 3 by omega) _, h8.set _, h9.low (show B + 4 < B + 6 by omega) _, by simpa using h10, h11⟩
/-- A store to a field of the module. -/
theorem Pq.setm {y' : Ma} {d' : Md} (h : Pq w0 w N M B A c n l p k t y d) (i : Nat) (u : Value) (hd : Db (w.setCell ⟨M, i, none⟩ u) M y' d') (ho : Oq (w.setCell ⟨M, i, none⟩ u) (B + 6) y' d') : Pq w0 (w.setCell ⟨M, i, none⟩ u) N M B A c n l p k t y' d' := by
  obtain ⟨h1, h2, h3, h4, h5, h6, h7, h8, h9, h10, h11⟩ := h
  refine ⟨h1.setCell (show w0.heap.size ≤ M by omega) _, ⟨⟨h2.1.1.set _ _, h2.1.2.other (show M ≠ N by omega) _⟩, h2.2.other (show M ≠ B + 5 by omega) _⟩, ⟨h3.1.set _ _, hd⟩, h4.other (show M ≠ B by omega) _, h5.other (show M ≠ B + 1 by omega) _, h6.other (show M ≠ B + 2 by omega) _, h7.other (show M ≠ B + 3 by omega) _, h8.other (show M ≠ B + 4 by omega) _, ho, by simpa using h10, h11⟩
theorem Db.setG {T : Nat} (h : Db w T y d) (A' : Option Addr) (c' : Nat) (g : List Vlu) : Db (w.setCell ⟨T, 0, none⟩ (.slice A' g.length c')) T { y with G := A', gc := c' } { d with g := g } := by
  obtain ⟨h0, h1, h2, h3, h4⟩ := h
  refine ⟨by simpa using h0, ?_, ?_, ?_, ?_⟩ <;> simp [go_sem, h1, h2, h3, h4]
theorem Db.setO {T : Nat} (h : Db w T y d) (A' : Option Addr) (c' : Nat) (g : List Vlu) : Db (w.setCell ⟨T, 1, none⟩ (.slice A' g.length c')) T { y with P := A', pc := c' } { d with p := g } := by
  obtain ⟨h0, h1, h2, h3, h4⟩ := h
  refine ⟨by simpa using h0, ?_, ?_, ?_, ?_⟩ <;> simp [go_sem, h1, h2, h3, h4]
theorem Db.setS {T : Nat} (h : Db w T y d) (A' : Option Addr) (c' : Nat) (s : List Mz) (Z : List Me) : Db (w.setCell ⟨T, 2, none⟩ (.slice A' s.length c')) T { y with A := A', c := c', Z := Z } { d with s := s } := by
  obtain ⟨h0, h1, h2, h3, h4⟩ := h
  refine ⟨by simpa using h0, ?_, ?_, ?_, ?_⟩ <;> simp [go_sem, h1, h2, h3, h4]
theorem Db.setI {T : Nat} (h : Db w T y d) (i : Int) : Db (w.setCell ⟨T, 3, none⟩ (.int .i64 i)) T y { d with i := i } := by
  obtain ⟨h0, h1, h2, h3, h4⟩ := h
  refine ⟨by simpa using h0, ?_, ?_, ?_, ?_⟩ <;> simp [go_sem, h1, h2, h3, h4]
theorem Pq.setG (h : Pq w0 w' N M B A c n l p k t y d) (A' : Option Addr) (c' : Nat) (g : List Vlu) (ho : w'.ownsRow w.heap.size 67 3 (.slice A' g.length c') g.length (cev g)) (h0 : Pq w0 w N M B A c n l p k t y d) (hg : ∀ x ∈ g, VlOk x) :
    Pq w0 (w'.setCell ⟨M, 0, none⟩ (.slice A' g.length c')) N M B A c n l p k t { y with G := A', gc := c' } { d with g := g } := by
  have lo := h0.2.2.2.2.2.2.2.2.2.1
  have hM : (⟨M, 0, none⟩ : Addr).block < B + 6 := by have := h.2.2.2.2.2.2.2.2.2.2.2.2; show M < B + 6; omega
  have hq := h.2.2.2.2.2.2.2.2.1.low hM (.slice A' g.length c')
  exact h.setm 0 _ (h.2.2.1.2.setG A' c' g) ⟨ownsRow_setCell_below (own_base ho lo) hM _, hq.2.1, hq.2.2.1, hq.2.2.2.1, hq.2.2.2.2.1, hg, hq.2.2.2.2.2.2⟩
theorem Pq.setO (h : Pq w0 w' N M B A c n l p k t y d) (A' : Option Addr) (c' : Nat) (g : List Vlu) (ho : w'.ownsRow w.heap.size 67 3 (.slice A' g.length c') g.length (cev g)) (h0 : Pq w0 w N M B A c n l p k t y d) (hg : ∀ x ∈ g, VlOk x) :
    Pq w0 (w'.setCell ⟨M, 1, none⟩ (.slice A' g.length c')) N M B A c n l p k t { y with P := A', pc := c' } { d with p := g } := by
  have lo := h0.2.2.2.2.2.2.2.2.2.1
  have hM : (⟨M, 1, none⟩ : Addr).block < B + 6 := by have := h.2.2.2.2.2.2.2.2.2.2.2.2; show M < B + 6; omega
  have hq := h.2.2.2.2.2.2.2.2.1.low hM (.slice A' g.length c')
  exact h.setm 1 _ (h.2.2.1.2.setO A' c' g) ⟨hq.1, ownsRow_setCell_below (own_base ho lo) hM _, hq.2.2.1, hq.2.2.2.1, hq.2.2.2.2.1, hq.2.2.2.2.2.1, hg, hq.2.2.2.2.2.2.2⟩
theorem Pq.setS (h : Pq w0 w' N M B A c n l p k t y d) (A' : Option Addr) (c' : Nat) (s : List Mz) (Z : List Me) (ho : w'.ownsRow w.heap.size 49 8 (.slice A' s.length c') s.length (cem Z)) (h0 : Pq w0 w N M B A c n l p k t y d) (hz : ∀ z ∈ Z, Wz w' w.heap.size z) (he : Z.map ze = s) :
    Pq w0 (w'.setCell ⟨M, 2, none⟩ (.slice A' s.length c')) N M B A c n l p k t { y with A := A', c := c', Z := Z } { d with s := s } := by
  have lo := h0.2.2.2.2.2.2.2.2.2.1
  have hM : (⟨M, 2, none⟩ : Addr).block < B + 6 := by have := h.2.2.2.2.2.2.2.2.2.2.2.2; show M < B + 6; omega
  have hq := h.2.2.2.2.2.2.2.2.1.low hM (.slice A' s.length c')
  exact h.setm 2 _ (h.2.2.1.2.setS A' c' s Z) ⟨hq.1, hq.2.1, ownsRow_setCell_below (own_base ho lo) hM _, fun z hz' => ((hz z hz').base lo).low hM _, he, hq.2.2.2.2.2⟩
theorem Pq.setI (h : Pq w0 w N M B A c n l p k t y d) (i : Int) (hi : -9223372036854775808 ≤ i ∧ i ≤ 9223372036854775807) : Pq w0 (w.setCell ⟨M, 3, none⟩ (.int .i64 i)) N M B A c n l p k t y { d with i := i } := by
  have hM : (⟨M, 3, none⟩ : Addr).block < B + 6 := by have := h.2.2.2.2.2.2.2.2.2.2.2.2; show M < B + 6; omega
  have hq := h.2.2.2.2.2.2.2.2.1.low hM (.int .i64 i)
  exact h.setm 3 _ (h.2.2.1.2.setI i) ⟨hq.1, hq.2.1, hq.2.2.1, hq.2.2.2.1, hq.2.2.2.2.1, hq.2.2.2.2.2.1, hq.2.2.2.2.2.2.1, hi⟩
end
set_option maxHeartbeats 4000000 in
theorem part1_v {w0 w : World} {N M B : Nat} {A : Option Addr} {c n : Nat} {l : List Int} {p k t : Int} {y : Ma} {d : Md} (h : Pq w0 w N M B A c n l p k t y d) (hc : Pc w0 N M B A c n l) (g : List Vlu) (q e : Int) (hR : rdP l p = (g, q, e)) (v : Bool) (hv : decide ((g.length : Int) ≤ 4) = v) :
    Calls Tryd.prog 75 #[.pointer (some ⟨B, 0, none⟩), .pointer (some ⟨B + 2, 0, none⟩), .pointer (some ⟨B + 1, 0, none⟩)] w fun r w' => r = .returned (.tuple #[.bool v, .int .i64 e]) ∧ ∃ A' c', Pq w0 w' N M B A c n l q k t { y with G := A', gc := c' } { d with g := g } := by
  have HP := Lib.hid h
  have HC := Lib.hid hc
  have HR := Lib.hid hR
  have HVV := Lib.hid hv
  clear h hc hR hv
  go_enter Tryd.func75, Tryd.ntmps75
  go_upto_region 1 with (fail)
  refine wp_region_L [10, 11] (S := fun w' => Hid (Pq w0 w' N M B A c n l p k t y d)) (by kernel_rfl) (HP.out.drew) (fun hHeld => ?_)
  refine wpL_take (i := 0) (v := ?_) rfl (by kernel_rfl) (fun _ _ _ h => h) (Or.inl ⟨by rfl, ?_⟩) (by assumption) ?_
  rotate_left 1
  · intro w hSw; (try dsimp only at hSw); obtain ⟨-, -, ⟨⟨m0, mf⟩, ⟨m1, z0, z1, z2, z3⟩⟩, ⟨a0, a1, a2⟩, ⟨b0, b1, b2⟩, ⟨c0, c1, c2⟩, ⟨d0, d1, d2⟩, ⟨e0, e1, e2⟩, -⟩ := hSw.out; go_simp; try with_reducible rfl
  try simp only [Act.put, List.getElem_toArray, List.getElem_cons_zero, List.getElem_cons_succ, List.setIfInBounds_toArray, List.set_cons_zero, List.set_cons_succ]
  refine wpL_take (i := 1) (v := ?_) rfl (by kernel_rfl) (fun _ _ _ h => h) (Or.inl ⟨by rfl, ?_⟩) (by assumption) ?_
  rotate_left 1
  · intro w hSw; (try dsimp only at hSw); obtain ⟨-, -, ⟨⟨m0, mf⟩, ⟨m1, z0, z1, z2, z3⟩⟩, ⟨a0, a1, a2⟩, ⟨b0, b1, b2⟩, ⟨c0, c1, c2⟩, ⟨d0, d1, d2⟩, ⟨e0, e1, e2⟩, -⟩ := hSw.out; go_simp; try with_reducible rfl
  try simp only [Act.put, List.getElem_toArray, List.getElem_cons_zero, List.getElem_cons_succ, List.setIfInBounds_toArray, List.set_cons_zero, List.set_cons_succ]
  refine wpL_take (i := 2) (v := ?_) rfl (by kernel_rfl) (fun _ _ _ h => h) (Or.inl ⟨by rfl, ?_⟩) (by assumption) ?_
  rotate_left 1
  · intro w hSw; (try dsimp only at hSw); obtain ⟨-, -, ⟨⟨m0, mf⟩, ⟨m1, z0, z1, z2, z3⟩⟩, ⟨a0, a1, a2⟩, ⟨b0, b1, b2⟩, ⟨c0, c1, c2⟩, ⟨d0, d1, d2⟩, ⟨e0, e1, e2⟩, -⟩ := hSw.out; go_simp; try with_reducible rfl
  try simp only [Act.put, List.getElem_toArray, List.getElem_cons_zero, List.getElem_cons_succ, List.setIfInBounds_toArray, List.set_cons_zero, List.set_cons_succ]
  refine wpL_ready (rs := [3]) (by kernel_rfl) (by simp) ?_
  refine AllL.cons rfl (fun K hK => ?_) AllL.nil
  go_simp
  refine (preadw_any A c n l p _ (hHeld.out.gw HC.out).1 (hHeld.out.rd HC.out) HC.out.2.2.1).mono ?_
  rintro r wb ⟨A', c', rfl, hrv, how, hb⟩
  rw [HR.out]
  have HV := Lib.hid hrv
  have HW := Lib.hid how
  rw [HR.out] at HV HW
  dsimp only at HV HW
  clear hrv how
  have HH0 := hHeld
  have HB := Lib.hid hb
  clear hb
  have SZ := Lib.hid (hHeld.out.call HB.out)
  obtain ⟨-, -, ⟨⟨m0, mf⟩, ⟨m1, z0, z1, z2, z3⟩⟩, ⟨a0, a1, a2⟩, ⟨b0, b1, b2⟩, ⟨c0, c1, c2⟩, ⟨d0, d1, d2⟩, ⟨e0, e1, e2⟩, -⟩ := SZ.out
  have mf0 := mf 0
  have mf1 := mf 1
  have mf2 := mf 2
  have mf3 := mf 3
  clear mf
  have hMB := HC.out.2.2.2.2.2
  go_wp2_with fail
  refine hK.out _ _ (SZ) (fun hHeld => ?_)
  clear hK K
  try simp only [Act.put, List.getElem_toArray, List.getElem_cons_zero, List.getElem_cons_succ, List.setIfInBounds_toArray, List.set_cons_zero, List.set_cons_succ]
  refine wpL_reckon (i := 4) (v := ?_) rfl (by kernel_rfl) (fun _ _ _ h => h) (Or.inl ⟨by rfl, ?_⟩) (Or.inr (by assumption)) ?_
  rotate_left 1
  · intro w _; go_simp; try with_reducible rfl
  try simp only [Act.put, List.getElem_toArray, List.getElem_cons_zero, List.getElem_cons_succ, List.setIfInBounds_toArray, List.set_cons_zero, List.set_cons_succ]
  refine wpL_reckon (i := 5) (v := ?_) rfl (by kernel_rfl) (fun _ _ _ h => h) (Or.inl ⟨by rfl, ?_⟩) (Or.inr (by assumption)) ?_
  rotate_left 1
  · intro w _; go_simp; try with_reducible rfl
  try simp only [Act.put, List.getElem_toArray, List.getElem_cons_zero, List.getElem_cons_succ, List.setIfInBounds_toArray, List.set_cons_zero, List.set_cons_succ]
  refine wpL_reckon (i := 6) (v := ?_) rfl (by kernel_rfl) (fun _ _ _ h => h) (Or.inl ⟨by rfl, ?_⟩) (Or.inr (by assumption)) ?_
  rotate_left 1
  · intro w _; go_simp; try with_reducible rfl
  try simp only [Act.put, List.getElem_toArray, List.getElem_cons_zero, List.getElem_cons_succ, List.setIfInBounds_toArray, List.set_cons_zero, List.set_cons_succ]
  refine wpL_reckon (i := 7) (v := ?_) rfl (by kernel_rfl) (fun _ _ _ h => h) (Or.inl ⟨by rfl, ?_⟩) (Or.inr (by assumption)) ?_
  rotate_left 1
  · intro w _; go_simp; try with_reducible rfl
  try simp only [Act.put, List.getElem_toArray, List.getElem_cons_zero, List.getElem_cons_succ, List.setIfInBounds_toArray, List.set_cons_zero, List.set_cons_succ]
  refine wpL_reckon (i := 8) (v := ?_) rfl (by kernel_rfl) (fun _ _ _ h => h) (Or.inl ⟨by rfl, ?_⟩) (Or.inr (by assumption)) ?_
  rotate_left 1
  · intro w _; go_simp; try with_reducible rfl
  try simp only [Act.put, List.getElem_toArray, List.getElem_cons_zero, List.getElem_cons_succ, List.setIfInBounds_toArray, List.set_cons_zero, List.set_cons_succ]
  refine wpL_reckon (i := 9) (v := ?_) rfl (by kernel_rfl) (fun _ _ _ h => h) (Or.inl ⟨by rfl, ?_⟩) (Or.inr (by assumption)) ?_
  rotate_left 1
  · intro w _; go_simp; try with_reducible rfl
  try simp only [Act.put, List.getElem_toArray, List.getElem_cons_zero, List.getElem_cons_succ, List.setIfInBounds_toArray, List.set_cons_zero, List.set_cons_succ]
  refine wpL_ready (rs := [10]) (by kernel_rfl) (by simp) ?_
  refine AllL.late rfl (by kernel_rfl) (fun K hK => ?_) AllL.nil
  go_simp
  refine hK.out _ _ ?_
  clear hK K
  try simp only [Act.put, List.getElem_toArray, List.getElem_cons_zero, List.getElem_cons_succ, List.setIfInBounds_toArray, List.set_cons_zero, List.set_cons_succ]
  refine wpL_ready (rs := [11]) (by kernel_rfl) (by simp) ?_
  refine AllL.late rfl (by kernel_rfl) (fun K hK => ?_) AllL.nil
  go_simp
  refine hK.out _ _ ?_
  clear hK K
  try simp only [Act.put, List.getElem_toArray, List.getElem_cons_zero, List.getElem_cons_succ, List.setIfInBounds_toArray, List.set_cons_zero, List.set_cons_succ]
  refine wpL_reckon (i := 12) (v := ?_) rfl (by kernel_rfl) (fun _ _ _ h => h) (Or.inl ⟨by rfl, ?_⟩) (Or.inl (by kernel_rfl)) ?_
  rotate_left 1
  · intro w _; go_simp; try with_reducible rfl
  try simp only [Act.put, List.getElem_toArray, List.getElem_cons_zero, List.getElem_cons_succ, List.setIfInBounds_toArray, List.set_cons_zero, List.set_cons_succ]
  refine wpL_done (by kernel_rfl) ?_ _
  have HQ := Lib.hid (((SZ.out.setG A' c' g HW.out HH0.out HV.out.1)).setp HC.out q)
  clear SZ HB HP HH0 hHeld m0 m1 z0 z1 z2 z3 a0 a1 a2 b0 b1 b2 c0 c1 c2 d0 d1 d2 e0 e1 e2 mf0 mf1 mf2 mf3 HV HW
  generalize ((wb.setCell ⟨M, 0, none⟩ (.slice A' g.length c')).setCell ⟨B + 2, 0, none⟩ (.int .i64 q)) = w5 at HQ ⊢
  obtain ⟨-, -, ⟨⟨m0, mf⟩, ⟨m1, z0, z1, z2, z3⟩⟩, -, ⟨b0, b1, b2⟩, -⟩ := HQ.out
  dsimp only at z0
  have P1 := fun w => Lib.hid (mayG_v g.length v w HVV.out)
  go_wp2_with fail
  refine (P1 _).out.mono ?_
  rintro r w6 ⟨rfl, rfl⟩
  clear P1 m0 mf m1 z0 z1 z2 z3 b0 b1 b2
  go_wp2_with fail
  go_ret2
  exact ⟨rfl, A', c', HQ.out⟩

set_option maxHeartbeats 4000000 in
theorem part2_v {w0 w : World} {N M B : Nat} {A : Option Addr} {c n : Nat} {l : List Int} {p k t : Int} {y : Ma} {d : Md} (h : Pq w0 w N M B A c n l p k t y d) (hc : Pc w0 N M B A c n l) (g : List Vlu) (q e : Int) (hR : rdP l p = (g, q, e)) :
    Calls Tryd.prog 77 #[.pointer (some ⟨B, 0, none⟩), .pointer (some ⟨B + 2, 0, none⟩), .pointer (some ⟨B + 1, 0, none⟩)] w fun r w' => r = .returned (.tuple #[.bool true, .int .i64 e]) ∧ ∃ A' c', Pq w0 w' N M B A c n l q k t { y with P := A', pc := c' } { d with p := g } := by
  have HP := Lib.hid h
  have HC := Lib.hid hc
  have HR := Lib.hid hR
  clear h hc hR
  go_enter Tryd.func77, Tryd.ntmps77
  go_upto_region 1 with (fail)
  refine wp_region_L [10, 11] (S := fun w' => Hid (Pq w0 w' N M B A c n l p k t y d)) (by kernel_rfl) (HP.out.drew) (fun hHeld => ?_)
  refine wpL_take (i := 0) (v := ?_) rfl (by kernel_rfl) (fun _ _ _ h => h) (Or.inl ⟨by rfl, ?_⟩) (by assumption) ?_
  rotate_left 1
  · intro w hSw; (try dsimp only at hSw); obtain ⟨-, -, ⟨⟨m0, mf⟩, ⟨m1, z0, z1, z2, z3⟩⟩, ⟨a0, a1, a2⟩, ⟨b0, b1, b2⟩, ⟨c0, c1, c2⟩, ⟨d0, d1, d2⟩, ⟨e0, e1, e2⟩, -⟩ := hSw.out; go_simp; try with_reducible rfl
  try simp only [Act.put, List.getElem_toArray, List.getElem_cons_zero, List.getElem_cons_succ, List.setIfInBounds_toArray, List.set_cons_zero, List.set_cons_succ]
  refine wpL_take (i := 1) (v := ?_) rfl (by kernel_rfl) (fun _ _ _ h => h) (Or.inl ⟨by rfl, ?_⟩) (by assumption) ?_
  rotate_left 1
  · intro w hSw; (try dsimp only at hSw); obtain ⟨-, -, ⟨⟨m0, mf⟩, ⟨m1, z0, z1, z2, z3⟩⟩, ⟨a0, a1, a2⟩, ⟨b0, b1, b2⟩, ⟨c0, c1, c2⟩, ⟨d0, d1, d2⟩, ⟨e0, e1, e2⟩, -⟩ := hSw.out; go_simp; try with_reducible rfl
  try simp only [Act.put, List.getElem_toArray, List.getElem_cons_zero, List.getElem_cons_succ, List.setIfInBounds_toArray, List.set_cons_zero, List.set_cons_succ]
  refine wpL_take (i := 2) (v := ?_) rfl (by kernel_rfl) (fun _ _ _ h => h) (Or.inl ⟨by rfl, ?_⟩) (by assumption) ?_
  rotate_left 1
  · intro w hSw; (try dsimp only at hSw); obtain ⟨-, -, ⟨⟨m0, mf⟩, ⟨m1, z0, z1, z2, z3⟩⟩, ⟨a0, a1, a2⟩, ⟨b0, b1, b2⟩, ⟨c0, c1, c2⟩, ⟨d0, d1, d2⟩, ⟨e0, e1, e2⟩, -⟩ := hSw.out; go_simp; try with_reducible rfl
  try simp only [Act.put, List.getElem_toArray, List.getElem_cons_zero, List.getElem_cons_succ, List.setIfInBounds_toArray, List.set_cons_zero, List.set_cons_succ]
  refine wpL_ready (rs := [3]) (by kernel_rfl) (by simp) ?_
  refine AllL.cons rfl (fun K hK => ?_) AllL.nil
  go_simp
  refine (preadw_any A c n l p _ (hHeld.out.gw HC.out).1 (hHeld.out.rd HC.out) HC.out.2.2.1).mono ?_
  rintro r wb ⟨A', c', rfl, hrv, how, hb⟩
  rw [HR.out]
  have HV := Lib.hid hrv
  have HW := Lib.hid how
  rw [HR.out] at HV HW
  dsimp only at HV HW
  clear hrv how
  have HH0 := hHeld
  have HB := Lib.hid hb
  clear hb
  have SZ := Lib.hid (hHeld.out.call HB.out)
  obtain ⟨-, -, ⟨⟨m0, mf⟩, ⟨m1, z0, z1, z2, z3⟩⟩, ⟨a0, a1, a2⟩, ⟨b0, b1, b2⟩, ⟨c0, c1, c2⟩, ⟨d0, d1, d2⟩, ⟨e0, e1, e2⟩, -⟩ := SZ.out
  have mf0 := mf 0
  have mf1 := mf 1
  have mf2 := mf 2
  have mf3 := mf 3
  clear mf
  have hMB := HC.out.2.2.2.2.2
  go_wp2_with fail
  refine hK.out _ _ (SZ) (fun hHeld => ?_)
  clear hK K
  try simp only [Act.put, List.getElem_toArray, List.getElem_cons_zero, List.getElem_cons_succ, List.setIfInBounds_toArray, List.set_cons_zero, List.set_cons_succ]
  refine wpL_reckon (i := 4) (v := ?_) rfl (by kernel_rfl) (fun _ _ _ h => h) (Or.inl ⟨by rfl, ?_⟩) (Or.inr (by assumption)) ?_
  rotate_left 1
  · intro w _; go_simp; try with_reducible rfl
  try simp only [Act.put, List.getElem_toArray, List.getElem_cons_zero, List.getElem_cons_succ, List.setIfInBounds_toArray, List.set_cons_zero, List.set_cons_succ]
  refine wpL_reckon (i := 5) (v := ?_) rfl (by kernel_rfl) (fun _ _ _ h => h) (Or.inl ⟨by rfl, ?_⟩) (Or.inr (by assumption)) ?_
  rotate_left 1
  · intro w _; go_simp; try with_reducible rfl
  try simp only [Act.put, List.getElem_toArray, List.getElem_cons_zero, List.getElem_cons_succ, List.setIfInBounds_toArray, List.set_cons_zero, List.set_cons_succ]
  refine wpL_reckon (i := 6) (v := ?_) rfl (by kernel_rfl) (fun _ _ _ h => h) (Or.inl ⟨by rfl, ?_⟩) (Or.inr (by assumption)) ?_
  rotate_left 1
  · intro w _; go_simp; try with_reducible rfl
  try simp only [Act.put, List.getElem_toArray, List.getElem_cons_zero, List.getElem_cons_succ, List.setIfInBounds_toArray, List.set_cons_zero, List.set_cons_succ]
  refine wpL_reckon (i := 7) (v := ?_) rfl (by kernel_rfl) (fun _ _ _ h => h) (Or.inl ⟨by rfl, ?_⟩) (Or.inr (by assumption)) ?_
  rotate_left 1
  · intro w _; go_simp; try with_reducible rfl
  try simp only [Act.put, List.getElem_toArray, List.getElem_cons_zero, List.getElem_cons_succ, List.setIfInBounds_toArray, List.set_cons_zero, List.set_cons_succ]
  refine wpL_reckon (i := 8) (v := ?_) rfl (by kernel_rfl) (fun _ _ _ h => h) (Or.inl ⟨by rfl, ?_⟩) (Or.inr (by assumption)) ?_
  rotate_left 1
  · intro w _; go_simp; try with_reducible rfl
  try simp only [Act.put, List.getElem_toArray, List.getElem_cons_zero, List.getElem_cons_succ, List.setIfInBounds_toArray, List.set_cons_zero, List.set_cons_succ]
  refine wpL_reckon (i := 9) (v := ?_) rfl (by kernel_rfl) (fun _ _ _ h => h) (Or.inl ⟨by rfl, ?_⟩) (Or.inr (by assumption)) ?_
  rotate_left 1
  · intro w _; go_simp; try with_reducible rfl
  try simp only [Act.put, List.getElem_toArray, List.getElem_cons_zero, List.getElem_cons_succ, List.setIfInBounds_toArray, List.set_cons_zero, List.set_cons_succ]
  refine wpL_ready (rs := [10]) (by kernel_rfl) (by simp) ?_
  refine AllL.late rfl (by kernel_rfl) (fun K hK => ?_) AllL.nil
  go_simp
  refine hK.out _ _ ?_
  clear hK K
  try simp only [Act.put, List.getElem_toArray, List.getElem_cons_zero, List.getElem_cons_succ, List.setIfInBounds_toArray, List.set_cons_zero, List.set_cons_succ]
  refine wpL_ready (rs := [11]) (by kernel_rfl) (by simp) ?_
  refine AllL.late rfl (by kernel_rfl) (fun K hK => ?_) AllL.nil
  go_simp
  refine hK.out _ _ ?_
  clear hK K
  try simp only [Act.put, List.getElem_toArray, List.getElem_cons_zero, List.getElem_cons_succ, List.setIfInBounds_toArray, List.set_cons_zero, List.set_cons_succ]
  refine wpL_reckon (i := 12) (v := ?_) rfl (by kernel_rfl) (fun _ _ _ h => h) (Or.inl ⟨by rfl, ?_⟩) (Or.inl (by kernel_rfl)) ?_
  rotate_left 1
  · intro w _; go_simp; try with_reducible rfl
  try simp only [Act.put, List.getElem_toArray, List.getElem_cons_zero, List.getElem_cons_succ, List.setIfInBounds_toArray, List.set_cons_zero, List.set_cons_succ]
  refine wpL_done (by kernel_rfl) ?_ _
  have HQ := Lib.hid (((SZ.out.setO A' c' g HW.out HH0.out HV.out.1)).setp HC.out q)
  clear SZ HB HP HH0 hHeld m0 m1 z0 z1 z2 z3 a0 a1 a2 b0 b1 b2 c0 c1 c2 d0 d1 d2 e0 e1 e2 mf0 mf1 mf2 mf3 HV HW
  generalize ((wb.setCell ⟨M, 1, none⟩ (.slice A' g.length c')).setCell ⟨B + 2, 0, none⟩ (.int .i64 q)) = w5 at HQ ⊢
  go_wp2_with fail
  go_ret2
  exact ⟨rfl, A', c', HQ.out⟩

set_option maxHeartbeats 4000000 in
theorem part3_v {w0 w : World} {N M B : Nat} {A : Option Addr} {c n : Nat} {l : List Int} {p k t : Int} {y : Ma} {d : Md} (h : Pq w0 w N M B A c n l p k t y d) (hc : Pc w0 N M B A c n l) (u q e : Int) (hu : getV l p 1 = u) (hq : getN l p 1 = q) (he : getE l p 1 = e) (v : Bool) (hv : decide (u ≤ 16) = v) :
    Calls Tryd.prog 78 #[.pointer (some ⟨B, 0, none⟩), .pointer (some ⟨B + 2, 0, none⟩), .pointer (some ⟨B + 3, 0, none⟩)] w fun r w' => r = .returned (.tuple #[.bool v, .int .i64 e]) ∧ Pq w0 w' N M B A c n l q u t y d := by
  have HC := Lib.hid hc
  have HP := Lib.hid h
  have HG := fun w hr => Lib.hid (get_m A n c l p 1 w hr hc.2.2.1)
  rw [hu, hq, he] at HG
  have P1 := fun w => Lib.hid (mayS_v u v w hv)
  clear hc hu hq he hv
  obtain ⟨-, -, -, ⟨a0, a1, a2⟩, -, ⟨c0, c1, c2⟩, ⟨d0, d1, d2⟩, -⟩ := h
  go_enter Tryd.func78, Tryd.ntmps78
  go_wp2_with fail
  refine (HG _ (HP.out.rd HC.out)).out.mono ?_
  rintro r w1 ⟨rfl, hb⟩
  have hMB := HC.out.2.2.2.2.2
  have H1 := Lib.hid (HP.out.call hb)
  have H2 := Lib.hid ((H1.out.setk u).setp HC.out q)
  clear HP HG hb a0 a1 a2 c0 c1 c2 d0 d1 d2
  obtain ⟨-, -, -, ⟨a0, a1, a2⟩, -, ⟨c0, c1, c2⟩, ⟨d0, d1, d2⟩, -⟩ := H1.out
  go_upto_region 2 with (fail)
  clear a0 a1 a2 c0 c1 c2 d0 d1 d2 H1
  generalize (w1.setCell ⟨B + 3, 0, none⟩ (.int .i64 u)).setCell ⟨B + 2, 0, none⟩ (.int .i64 q) = w2 at H2 ⊢
  obtain ⟨-, -, -, ⟨a0, a1, a2⟩, -, ⟨c0, c1, c2⟩, ⟨d0, d1, d2⟩, -⟩ := H2.out
  go_wp2_with fail
  refine (P1 _).out.mono ?_
  rintro r w6 ⟨rfl, rfl⟩
  clear P1 a0 a1 a2 c0 c1 c2 d0 d1 d2
  go_wp2_with fail
  go_ret2
  exact ⟨rfl, H2.out⟩
set_option maxHeartbeats 4000000 in
theorem part4_v {w0 w : World} {N M B : Nat} {A : Option Addr} {c n : Nat} {l : List Int} {p t : Int} {kn : Nat} {y : Ma} {d : Md} (h : Pq w0 w N M B A c n l p kn t y d) (hc : Pc w0 N M B A c n l) (hkn : kn ≤ 16) (s : List Mz) (q e : Int) (hR : qms l kn p = (s, q, e)) :
    Calls Tryd.prog 80 #[.pointer (some ⟨B, 0, none⟩), .pointer (some ⟨B + 2, 0, none⟩), .pointer (some ⟨B + 3, 0, none⟩), .pointer (some ⟨B + 1, 0, none⟩)] w fun r w' => r = .returned (.tuple #[.bool true, .int .i64 e]) ∧ ∃ A' c' Z, Pq w0 w' N M B A c n l q kn t { y with A := A', c := c', Z := Z } { d with s := s } := by
  have HP := Lib.hid h
  have HC := Lib.hid hc
  have HR := Lib.hid hR
  clear h hc hR
  go_enter Tryd.func80, Tryd.ntmps80
  go_upto_region 1 with (fail)
  refine wp_region_L [11, 12] (S := fun w' => Hid (Pq w0 w' N M B A c n l p kn t y d)) (by kernel_rfl) (HP.out.drew) (fun hHeld => ?_)
  refine wpL_take (i := 0) (v := ?_) rfl (by kernel_rfl) (fun _ _ _ h => h) (Or.inl ⟨by rfl, ?_⟩) (by assumption) ?_
  rotate_left 1
  · intro w hSw; (try dsimp only at hSw); obtain ⟨-, -, ⟨⟨m0, mf⟩, ⟨m1, z0, z1, z2, z3⟩⟩, ⟨a0, a1, a2⟩, ⟨b0, b1, b2⟩, ⟨c0, c1, c2⟩, ⟨d0, d1, d2⟩, ⟨e0, e1, e2⟩, -⟩ := hSw.out; go_simp; try with_reducible rfl
  try simp only [Act.put, List.getElem_toArray, List.getElem_cons_zero, List.getElem_cons_succ, List.setIfInBounds_toArray, List.set_cons_zero, List.set_cons_succ]
  refine wpL_take (i := 1) (v := ?_) rfl (by kernel_rfl) (fun _ _ _ h => h) (Or.inl ⟨by rfl, ?_⟩) (by assumption) ?_
  rotate_left 1
  · intro w hSw; (try dsimp only at hSw); obtain ⟨-, -, ⟨⟨m0, mf⟩, ⟨m1, z0, z1, z2, z3⟩⟩, ⟨a0, a1, a2⟩, ⟨b0, b1, b2⟩, ⟨c0, c1, c2⟩, ⟨d0, d1, d2⟩, ⟨e0, e1, e2⟩, -⟩ := hSw.out; go_simp; try with_reducible rfl
  try simp only [Act.put, List.getElem_toArray, List.getElem_cons_zero, List.getElem_cons_succ, List.setIfInBounds_toArray, List.set_cons_zero, List.set_cons_succ]
  refine wpL_take (i := 2) (v := ?_) rfl (by kernel_rfl) (fun _ _ _ h => h) (Or.inl ⟨by rfl, ?_⟩) (by assumption) ?_
  rotate_left 1
  · intro w hSw; (try dsimp only at hSw); obtain ⟨-, -, ⟨⟨m0, mf⟩, ⟨m1, z0, z1, z2, z3⟩⟩, ⟨a0, a1, a2⟩, ⟨b0, b1, b2⟩, ⟨c0, c1, c2⟩, ⟨d0, d1, d2⟩, ⟨e0, e1, e2⟩, -⟩ := hSw.out; go_simp; try with_reducible rfl
  try simp only [Act.put, List.getElem_toArray, List.getElem_cons_zero, List.getElem_cons_succ, List.setIfInBounds_toArray, List.set_cons_zero, List.set_cons_succ]
  refine wpL_take (i := 3) (v := ?_) rfl (by kernel_rfl) (fun _ _ _ h => h) (Or.inl ⟨by rfl, ?_⟩) (by assumption) ?_
  rotate_left 1
  · intro w hSw; (try dsimp only at hSw); obtain ⟨-, -, ⟨⟨m0, mf⟩, ⟨m1, z0, z1, z2, z3⟩⟩, ⟨a0, a1, a2⟩, ⟨b0, b1, b2⟩, ⟨c0, c1, c2⟩, ⟨d0, d1, d2⟩, ⟨e0, e1, e2⟩, -⟩ := hSw.out; go_simp; try with_reducible rfl
  try simp only [Act.put, List.getElem_toArray, List.getElem_cons_zero, List.getElem_cons_succ, List.setIfInBounds_toArray, List.set_cons_zero, List.set_cons_succ]
  refine wpL_ready (rs := [4]) (by kernel_rfl) (by simp) ?_
  refine AllL.cons rfl (fun K hK => ?_) AllL.nil
  go_simp
  refine (rms_v A c n l p kn _ (hHeld.out.gw HC.out) (hHeld.out.rd HC.out) HC.out.2.2.1 hkn).mono ?_
  rintro r wb ⟨A', c', Z, rfl, how, hwz, hze, hb⟩
  rw [HR.out]
  have HW := Lib.hid how
  have HZ := Lib.hid hwz
  have HE := Lib.hid hze
  rw [HR.out] at HW HE
  dsimp only at HW HE
  clear how hwz hze
  have HH0 := hHeld
  have HB := Lib.hid hb
  clear hb
  have SZ := Lib.hid (hHeld.out.call HB.out)
  obtain ⟨-, -, ⟨⟨m0, mf⟩, ⟨m1, z0, z1, z2, z3⟩⟩, ⟨a0, a1, a2⟩, ⟨b0, b1, b2⟩, ⟨c0, c1, c2⟩, ⟨d0, d1, d2⟩, ⟨e0, e1, e2⟩, -⟩ := SZ.out
  have mf0 := mf 0
  have mf1 := mf 1
  have mf2 := mf 2
  have mf3 := mf 3
  clear mf
  have hMB := HC.out.2.2.2.2.2
  go_wp2_with fail
  refine hK.out _ _ (SZ) (fun hHeld => ?_)
  clear hK K
  try simp only [Act.put, List.getElem_toArray, List.getElem_cons_zero, List.getElem_cons_succ, List.setIfInBounds_toArray, List.set_cons_zero, List.set_cons_succ]
  refine wpL_reckon (i := 5) (v := ?_) rfl (by kernel_rfl) (fun _ _ _ h => h) (Or.inl ⟨by rfl, ?_⟩) (Or.inr (by assumption)) ?_
  rotate_left 1
  · intro w _; go_simp; try with_reducible rfl
  try simp only [Act.put, List.getElem_toArray, List.getElem_cons_zero, List.getElem_cons_succ, List.setIfInBounds_toArray, List.set_cons_zero, List.set_cons_succ]
  refine wpL_reckon (i := 6) (v := ?_) rfl (by kernel_rfl) (fun _ _ _ h => h) (Or.inl ⟨by rfl, ?_⟩) (Or.inr (by assumption)) ?_
  rotate_left 1
  · intro w _; go_simp; try with_reducible rfl
  try simp only [Act.put, List.getElem_toArray, List.getElem_cons_zero, List.getElem_cons_succ, List.setIfInBounds_toArray, List.set_cons_zero, List.set_cons_succ]
  refine wpL_reckon (i := 7) (v := ?_) rfl (by kernel_rfl) (fun _ _ _ h => h) (Or.inl ⟨by rfl, ?_⟩) (Or.inr (by assumption)) ?_
  rotate_left 1
  · intro w _; go_simp; try with_reducible rfl
  try simp only [Act.put, List.getElem_toArray, List.getElem_cons_zero, List.getElem_cons_succ, List.setIfInBounds_toArray, List.set_cons_zero, List.set_cons_succ]
  refine wpL_reckon (i := 8) (v := ?_) rfl (by kernel_rfl) (fun _ _ _ h => h) (Or.inl ⟨by rfl, ?_⟩) (Or.inr (by assumption)) ?_
  rotate_left 1
  · intro w _; go_simp; try with_reducible rfl
  try simp only [Act.put, List.getElem_toArray, List.getElem_cons_zero, List.getElem_cons_succ, List.setIfInBounds_toArray, List.set_cons_zero, List.set_cons_succ]
  refine wpL_reckon (i := 9) (v := ?_) rfl (by kernel_rfl) (fun _ _ _ h => h) (Or.inl ⟨by rfl, ?_⟩) (Or.inr (by assumption)) ?_
  rotate_left 1
  · intro w _; go_simp; try with_reducible rfl
  try simp only [Act.put, List.getElem_toArray, List.getElem_cons_zero, List.getElem_cons_succ, List.setIfInBounds_toArray, List.set_cons_zero, List.set_cons_succ]
  refine wpL_reckon (i := 10) (v := ?_) rfl (by kernel_rfl) (fun _ _ _ h => h) (Or.inl ⟨by rfl, ?_⟩) (Or.inr (by assumption)) ?_
  rotate_left 1
  · intro w _; go_simp; try with_reducible rfl
  try simp only [Act.put, List.getElem_toArray, List.getElem_cons_zero, List.getElem_cons_succ, List.setIfInBounds_toArray, List.set_cons_zero, List.set_cons_succ]
  refine wpL_ready (rs := [11]) (by kernel_rfl) (by simp) ?_
  refine AllL.late rfl (by kernel_rfl) (fun K hK => ?_) AllL.nil
  go_simp
  refine hK.out _ _ ?_
  clear hK K
  try simp only [Act.put, List.getElem_toArray, List.getElem_cons_zero, List.getElem_cons_succ, List.setIfInBounds_toArray, List.set_cons_zero, List.set_cons_succ]
  refine wpL_ready (rs := [12]) (by kernel_rfl) (by simp) ?_
  refine AllL.late rfl (by kernel_rfl) (fun K hK => ?_) AllL.nil
  go_simp
  refine hK.out _ _ ?_
  clear hK K
  try simp only [Act.put, List.getElem_toArray, List.getElem_cons_zero, List.getElem_cons_succ, List.setIfInBounds_toArray, List.set_cons_zero, List.set_cons_succ]
  refine wpL_reckon (i := 13) (v := ?_) rfl (by kernel_rfl) (fun _ _ _ h => h) (Or.inl ⟨by rfl, ?_⟩) (Or.inl (by kernel_rfl)) ?_
  rotate_left 1
  · intro w _; go_simp; try with_reducible rfl
  try simp only [Act.put, List.getElem_toArray, List.getElem_cons_zero, List.getElem_cons_succ, List.setIfInBounds_toArray, List.set_cons_zero, List.set_cons_succ]
  refine wpL_done (by kernel_rfl) ?_ _
  have HQ := Lib.hid (((SZ.out.setS A' c' s Z HW.out HH0.out HZ.out HE.out)).setp HC.out q)
  clear SZ HB HP HH0 hHeld m0 m1 z0 z1 z2 z3 a0 a1 a2 b0 b1 b2 c0 c1 c2 d0 d1 d2 e0 e1 e2 mf0 mf1 mf2 mf3 HW HZ HE
  generalize ((wb.setCell ⟨M, 2, none⟩ (.slice A' s.length c')).setCell ⟨B + 2, 0, none⟩ (.int .i64 q)) = w5 at HQ ⊢
  go_wp2_with fail
  go_ret2
  exact ⟨rfl, A', c', Z, HQ.out⟩

set_option maxHeartbeats 4000000 in
theorem part5_v {w0 w : World} {N M B : Nat} {A : Option Addr} {c n : Nat} {l : List Int} {p k t : Int} {y : Ma} {d : Md} (h : Pq w0 w N M B A c n l p k t y d) (hc : Pc w0 N M B A c n l) (u q e : Int) (hu : getV l p 1 = u) (hq : getN l p 1 = q) (he : getE l p 1 = e) (hub : 0 ≤ u ∧ u ≤ 255) (v : Bool) (hv : decide ((if u = 255 then -1 else u) = -1 ∨ 0 ≤ (if u = 255 then -1 else u) ∧ (if u = 255 then -1 else u) < (d.s.length : Int)) = v) :
    Calls Tryd.prog 82 #[.pointer (some ⟨B, 0, none⟩), .pointer (some ⟨B + 2, 0, none⟩), .pointer (some ⟨B + 4, 0, none⟩), .pointer (some ⟨B + 1, 0, none⟩)] w fun r w' => r = .returned (.tuple #[.bool v, .int .i64 e]) ∧ Pq w0 w' N M B A c n l q k u y { d with i := if u = 255 then -1 else u } := by
  have PM := fun w => migOf_v u w
  have hib : -9223372036854775808 ≤ (if u = 255 then -1 else u) ∧ (if u = 255 then -1 else u) ≤ 9223372036854775807 := by split <;> omega
  obtain ⟨iz, hiz⟩ : ∃ iz, (if u = 255 then -1 else u) = iz := ⟨_, rfl⟩
  simp only [hiz] at PM hv hib ⊢
  have PM := fun w => Lib.hid (PM w)
  have HIB := Lib.hid hib
  clear hiz hib
  have HC := Lib.hid hc
  have HP := Lib.hid h
  have HVV := Lib.hid hv
  have HG := fun w hr => Lib.hid (get_m A n c l p 1 w hr hc.2.2.1)
  rw [hu, hq, he] at HG
  clear hc hu hq he hv
  obtain ⟨-, -, -, ⟨a0, a1, a2⟩, -, ⟨c0, c1, c2⟩, -, ⟨d0, d1, d2⟩, -⟩ := h
  go_enter Tryd.func82, Tryd.ntmps82
  go_wp2_with fail
  refine (HG _ (HP.out.rd HC.out)).out.mono ?_
  rintro r w1 ⟨rfl, hb⟩
  have hMB := HC.out.2.2.2.2.2
  have H1 := Lib.hid (HP.out.call hb)
  have HP5 := Lib.hid ((H1.out.sett u).setp HC.out q)
  clear HP HG hb a0 a1 a2 c0 c1 c2 d0 d1 d2
  obtain ⟨-, -, -, ⟨a0, a1, a2⟩, -, ⟨c0, c1, c2⟩, -, ⟨d0, d1, d2⟩, -⟩ := H1.out
  go_upto_region 2 with (fail)
  clear a0 a1 a2 c0 c1 c2 d0 d1 d2 H1
  generalize (w1.setCell ⟨B + 4, 0, none⟩ (.int .i64 u)).setCell ⟨B + 2, 0, none⟩ (.int .i64 q) = w2 at HP5 ⊢
  refine wp_region_L [5] (S := fun w' => Hid (Pq w0 w' N M B A c n l q k u y d)) (by kernel_rfl) (HP5.out.drew) (fun hHeld => ?_)
  refine wpL_take (i := 0) (v := ?_) rfl (by kernel_rfl) (fun _ _ _ h => h) (Or.inl ⟨by rfl, ?_⟩) (by assumption) ?_
  rotate_left 1
  · intro w hSw; (try dsimp only at hSw); obtain ⟨-, -, ⟨⟨m0, mf⟩, ⟨m1, z0, z1, z2, z3⟩⟩, ⟨a0, a1, a2⟩, ⟨b0, b1, b2⟩, ⟨c0, c1, c2⟩, ⟨d0, d1, d2⟩, ⟨e0, e1, e2⟩, -⟩ := hSw.out; go_simp; try with_reducible rfl
  try simp only [Act.put, List.getElem_toArray, List.getElem_cons_zero, List.getElem_cons_succ, List.setIfInBounds_toArray, List.set_cons_zero, List.set_cons_succ]
  refine wpL_take (i := 1) (v := ?_) rfl (by kernel_rfl) (fun _ _ _ h => h) (Or.inl ⟨by rfl, ?_⟩) (by assumption) ?_
  rotate_left 1
  · intro w hSw; (try dsimp only at hSw); obtain ⟨-, -, ⟨⟨m0, mf⟩, ⟨m1, z0, z1, z2, z3⟩⟩, ⟨a0, a1, a2⟩, ⟨b0, b1, b2⟩, ⟨c0, c1, c2⟩, ⟨d0, d1, d2⟩, ⟨e0, e1, e2⟩, -⟩ := hSw.out; go_simp; try with_reducible rfl
  try simp only [Act.put, List.getElem_toArray, List.getElem_cons_zero, List.getElem_cons_succ, List.setIfInBounds_toArray, List.set_cons_zero, List.set_cons_succ]
  refine wpL_ready (rs := [2]) (by kernel_rfl) (by simp) ?_
  refine AllL.cons rfl (fun K hK => ?_) AllL.nil
  go_simp
  refine (PM _).out.mono ?_
  rintro r wb ⟨rfl, rfl⟩
  obtain ⟨-, -, ⟨⟨m0, mf⟩, ⟨m1, z0, z1, z2, z3⟩⟩, -⟩ := hHeld.out
  have mf3 := mf 3
  clear mf
  go_wp2_with fail
  refine hK.out _ _ (hHeld) (fun hHeld => ?_)
  clear hK K
  try simp only [Act.put, List.getElem_toArray, List.getElem_cons_zero, List.getElem_cons_succ, List.setIfInBounds_toArray, List.set_cons_zero, List.set_cons_succ]
  refine wpL_reckon (i := 3) (v := ?_) rfl (by kernel_rfl) (fun _ _ _ h => h) (Or.inl ⟨by rfl, ?_⟩) (Or.inr (by assumption)) ?_
  rotate_left 1
  · intro w _; go_simp; try with_reducible rfl
  try simp only [Act.put, List.getElem_toArray, List.getElem_cons_zero, List.getElem_cons_succ, List.setIfInBounds_toArray, List.set_cons_zero, List.set_cons_succ]
  refine wpL_reckon (i := 4) (v := ?_) rfl (by kernel_rfl) (fun _ _ _ h => h) (Or.inl ⟨by rfl, ?_⟩) (Or.inr (by assumption)) ?_
  rotate_left 1
  · intro w _; go_simp; try with_reducible rfl
  try simp only [Act.put, List.getElem_toArray, List.getElem_cons_zero, List.getElem_cons_succ, List.setIfInBounds_toArray, List.set_cons_zero, List.set_cons_succ]
  refine wpL_ready (rs := [5]) (by kernel_rfl) (by simp) ?_
  refine AllL.late rfl (by kernel_rfl) (fun K hK => ?_) AllL.nil
  go_simp
  refine hK.out _ _ ?_
  clear hK K
  try simp only [Act.put, List.getElem_toArray, List.getElem_cons_zero, List.getElem_cons_succ, List.setIfInBounds_toArray, List.set_cons_zero, List.set_cons_succ]
  refine wpL_done (by kernel_rfl) ?_ _
  have HQ : Hid (Pq w0 (w2.setCell ⟨M, 3, none⟩ (.int .i64 iz)).drew N M B A c n l q k u y { d with i := iz }) := Lib.hid (hHeld.out.setI iz HIB.out)
  clear hHeld HP5 m0 m1 z0 z1 z2 z3 mf3 PM
  generalize (w2.setCell ⟨M, 3, none⟩ (.int .i64 iz)).drew = wz at HQ ⊢
  have P1 := fun w => Lib.hid (mayI_v iz d.s.length v w HVV.out)
  go_upto_region 3 with (fail)
  refine wp_region_held_drew (S := fun w' => Hid (Pq w0 w' N M B A c n l q k u y { d with i := iz })) (by kernel_rfl) (HQ.out.drew) (fun hHeld => ?_)
  refine wpAnyH_take (i := 0) (v := ?_) rfl (by kernel_rfl) (by kernel_rfl) (by kernel_rfl) (fun _ _ _ h => h) (Or.inl ⟨by rfl, ?_⟩) (by assumption) ?_
  rotate_left 1
  · intro w hSw; (try dsimp only at hSw); obtain ⟨-, -, ⟨⟨m0, mf⟩, ⟨m1, z0, z1, z2, z3⟩⟩, ⟨a0, a1, a2⟩, ⟨b0, b1, b2⟩, ⟨c0, c1, c2⟩, ⟨d0, d1, d2⟩, ⟨e0, e1, e2⟩, -⟩ := hSw.out; go_simp; try with_reducible rfl
  try simp only [Act.put, List.getElem_toArray, List.getElem_cons_zero, List.getElem_cons_succ, List.setIfInBounds_toArray, List.set_cons_zero, List.set_cons_succ]
  refine wpAnyH_take (i := 1) (v := ?_) rfl (by kernel_rfl) (by kernel_rfl) (by kernel_rfl) (fun _ _ _ h => h) (Or.inl ⟨by rfl, ?_⟩) (by assumption) ?_
  rotate_left 1
  · intro w _; go_simp; try with_reducible rfl
  try simp only [Act.put, List.getElem_toArray, List.getElem_cons_zero, List.getElem_cons_succ, List.setIfInBounds_toArray, List.set_cons_zero, List.set_cons_succ]
  refine wpAnyH_take (i := 2) (v := ?_) rfl (by kernel_rfl) (by kernel_rfl) (by kernel_rfl) (fun _ _ _ h => h) (Or.inl ⟨by rfl, ?_⟩) (by assumption) ?_
  rotate_left 1
  · intro w _; go_simp; try with_reducible rfl
  try simp only [Act.put, List.getElem_toArray, List.getElem_cons_zero, List.getElem_cons_succ, List.setIfInBounds_toArray, List.set_cons_zero, List.set_cons_succ]
  refine wpAnyH_take (i := 3) (v := ?_) rfl (by kernel_rfl) (by kernel_rfl) (by kernel_rfl) (fun _ _ _ h => h) (Or.inl ⟨by rfl, ?_⟩) (by assumption) ?_
  rotate_left 1
  · intro w hSw; (try dsimp only at hSw); obtain ⟨-, -, ⟨⟨m0, mf⟩, ⟨m1, z0, z1, z2, z3⟩⟩, ⟨a0, a1, a2⟩, ⟨b0, b1, b2⟩, ⟨c0, c1, c2⟩, ⟨d0, d1, d2⟩, ⟨e0, e1, e2⟩, -⟩ := hSw.out; go_simp; try with_reducible rfl
  try simp only [Act.put, List.getElem_toArray, List.getElem_cons_zero, List.getElem_cons_succ, List.setIfInBounds_toArray, List.set_cons_zero, List.set_cons_succ]
  refine wpAnyH_take (i := 4) (v := ?_) rfl (by kernel_rfl) (by kernel_rfl) (by kernel_rfl) (fun _ _ _ h => h) (Or.inl ⟨by rfl, ?_⟩) (by assumption) ?_
  rotate_left 1
  · intro w hSw; (try dsimp only at hSw); obtain ⟨-, -, ⟨⟨m0, mf⟩, ⟨m1, z0, z1, z2, z3⟩⟩, ⟨a0, a1, a2⟩, ⟨b0, b1, b2⟩, ⟨c0, c1, c2⟩, ⟨d0, d1, d2⟩, ⟨e0, e1, e2⟩, -⟩ := hSw.out; go_simp; try with_reducible rfl
  try simp only [Act.put, List.getElem_toArray, List.getElem_cons_zero, List.getElem_cons_succ, List.setIfInBounds_toArray, List.set_cons_zero, List.set_cons_succ]
  refine wpAnyH_take (i := 5) (v := ?_) rfl (by kernel_rfl) (by kernel_rfl) (by kernel_rfl) (fun _ _ _ h => h) (Or.inl ⟨by rfl, ?_⟩) (by assumption) ?_
  rotate_left 1
  · intro w _; go_simp; try with_reducible rfl
  try simp only [Act.put, List.getElem_toArray, List.getElem_cons_zero, List.getElem_cons_succ, List.setIfInBounds_toArray, List.set_cons_zero, List.set_cons_succ]
  refine wpAnyH_take (i := 6) (v := ?_) rfl (by kernel_rfl) (by kernel_rfl) (by kernel_rfl) (fun _ _ _ h => h) (Or.inl ⟨by rfl, ?_⟩) (by assumption) ?_
  rotate_left 1
  · intro w _; go_simp; try with_reducible rfl
  try simp only [Act.put, List.getElem_toArray, List.getElem_cons_zero, List.getElem_cons_succ, List.setIfInBounds_toArray, List.set_cons_zero, List.set_cons_succ]
  refine wpAnyH_take (i := 7) (v := ?_) rfl (by kernel_rfl) (by kernel_rfl) (by kernel_rfl) (fun _ _ _ h => h) (Or.inl ⟨by rfl, ?_⟩) (by assumption) ?_
  rotate_left 1
  · intro w hSw; (try dsimp only at hSw); obtain ⟨-, -, ⟨⟨m0, mf⟩, ⟨m1, z0, z1, z2, z3⟩⟩, ⟨a0, a1, a2⟩, ⟨b0, b1, b2⟩, ⟨c0, c1, c2⟩, ⟨d0, d1, d2⟩, ⟨e0, e1, e2⟩, -⟩ := hSw.out; go_simp; try with_reducible rfl
  try simp only [Act.put, List.getElem_toArray, List.getElem_cons_zero, List.getElem_cons_succ, List.setIfInBounds_toArray, List.set_cons_zero, List.set_cons_succ]
  refine wpAnyH_take (i := 8) (v := ?_) rfl (by kernel_rfl) (by kernel_rfl) (by kernel_rfl) (fun _ _ _ h => h) (Or.inl ⟨by rfl, ?_⟩) (by assumption) ?_
  rotate_left 1
  · intro w _; go_simp; try with_reducible rfl
  try simp only [Act.put, List.getElem_toArray, List.getElem_cons_zero, List.getElem_cons_succ, List.setIfInBounds_toArray, List.set_cons_zero, List.set_cons_succ]
  refine wpAnyH_take (i := 10) (v := ?_) rfl (by kernel_rfl) (by kernel_rfl) (by kernel_rfl) (fun _ _ _ h => h) (Or.inl ⟨by rfl, ?_⟩) (by assumption) ?_
  rotate_left 1
  · intro w _; go_simp; try with_reducible rfl
  try simp only [Act.put, List.getElem_toArray, List.getElem_cons_zero, List.getElem_cons_succ, List.setIfInBounds_toArray, List.set_cons_zero, List.set_cons_succ]
  refine wpAnyH_ready (rs := [9]) (by kernel_rfl) (by simp) ?_
  refine AllReadyH.cons rfl (fun K hK => ?_) AllReadyH.nil
  go_simp
  refine (P1 _).out.mono ?_
  rintro r wb ⟨rfl, rfl⟩
  go_wp2_with fail
  refine hK.out _ _ (hHeld) (fun hHeld => ?_)
  clear hK K
  try simp only [Act.put, List.getElem_toArray, List.getElem_cons_zero, List.getElem_cons_succ, List.setIfInBounds_toArray, List.set_cons_zero, List.set_cons_succ]
  refine wpAnyH_take (i := 11) (v := ?_) rfl (by kernel_rfl) (by kernel_rfl) (by kernel_rfl) (fun _ _ _ h => h) (Or.inl ⟨by rfl, ?_⟩) (by assumption) ?_
  rotate_left 1
  · intro w _; go_simp; try with_reducible rfl
  try simp only [Act.put, List.getElem_toArray, List.getElem_cons_zero, List.getElem_cons_succ, List.setIfInBounds_toArray, List.set_cons_zero, List.set_cons_succ]
  refine wpAnyH_take (i := 12) (v := ?_) rfl (by kernel_rfl) (by kernel_rfl) (by kernel_rfl) (fun _ _ _ h => h) (Or.inl ⟨by rfl, ?_⟩) (by assumption) ?_
  rotate_left 1
  · intro w _; go_simp; try with_reducible rfl
  try simp only [Act.put, List.getElem_toArray, List.getElem_cons_zero, List.getElem_cons_succ, List.setIfInBounds_toArray, List.set_cons_zero, List.set_cons_succ]
  refine wpAnyH_done (by kernel_rfl) ?_ _
  clear hHeld
  go_wp2_with fail
  go_ret2
  exact ⟨rfl, HQ.out.drew⟩

set_option maxHeartbeats 4000000 in
theorem part6_v {w0 w : World} {N M B : Nat} {A : Option Addr} {c n : Nat} {l : List Int} {p k t : Int} {y : Ma} {d : Md} (h : Pq w0 w N M B A c n l p k t y d) (v : Bool) (hv : decide (p = (n : Int)) = v) :
    Calls Tryd.prog 84 #[.pointer (some ⟨B + 2, 0, none⟩), .pointer (some ⟨B, 0, none⟩)] w fun r w' => r = .returned (.tuple #[.bool v, .int .i64 0]) ∧ Pq w0 w' N M B A c n l p k t y d := by
  have HP := Lib.hid h
  have HVV := Lib.hid hv
  clear hv
  obtain ⟨-, -, -, ⟨a0, a1, a2⟩, -, ⟨c0, c1, c2⟩, -⟩ := h
  go_enter Tryd.func84, Tryd.ntmps84
  go_wp2_with fail
  go_ret2
  refine ⟨?_, HP.out⟩
  rw [← HVV.out]
  by_cases hpn : p = (n : Int) <;> simp [hpn]
end Go.Proofs.YteimpkjpoijhmaaDoor
