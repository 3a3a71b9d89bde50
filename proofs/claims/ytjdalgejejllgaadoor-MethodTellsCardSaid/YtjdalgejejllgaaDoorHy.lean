/-
  A head's block that is written; a row of integers in memory.
-/
import Derived.Test.YtjdalgejejllgaaDoorHh
namespace Go.Proofs.YtjdalgejejllgaaDoor
open Go.RowKit
set_option maxRecDepth 100000
set_option linter.unusedSimpArgs false
set_option linter.unusedVariables false

/-- No cell of the block is frozen. -/
def Mf (w : World) (B : Nat) : Prop := B < w.heap.size ∧ ∀ i, w.frozen? ⟨B, i, none⟩ = false
theorem Mf.new (w : World) (cs : Array Value) (t : Nat) : Mf (w.alloc (.cells cs t)) w.heap.size := ⟨by simp, fun i => by simp [go_sem]⟩
theorem Mf.keep {w w' : World} {B : Nat} (h : Mf w B) (hb : Below w.heap.size w w') : Mf w' B := ⟨Nat.lt_of_lt_of_le h.1 hb.size, fun i => ((bcell hb).2 _ _ h.1).trans (h.2 i)⟩
theorem Mf.set {w : World} {B : Nat} (h : Mf w B) (p : Addr) (v : Value) : Mf (w.setCell p v) B := ⟨by simpa using h.1, fun i => by simpa using h.2 i⟩
abbrev fF (B : Nat) : Fct := ⟨fun w => Mf w B, fun _ _ h hb => h.keep hb⟩
theorem Sx.mkMF {w0 w : World} {L : List Fct} (h : Sx w0 w L) (x : Mc) (m : Mh) : Sx w0 (w.alloc (hcel x m)) (fF w.heap.size :: fM w.heap.size x m :: L) := (h.mkM x m).add (fF w.heap.size) (Mf.new w _ _)
/-- A head is stored, cell by cell. -/
def put8 (w : World) (B : Nat) (x : Mc) (m : Mh) : World :=
  (((((((w.setCell ⟨B, 0, none⟩ (.slice x.A m.a.length x.c)).setCell ⟨B, 1, none⟩ (.slice x.B m.l.length x.d)).setCell ⟨B, 2, none⟩ (.int .u8 m.r)).setCell ⟨B, 3, none⟩ (.bool m.q)).setCell ⟨B, 4, none⟩ (.int .i64 m.f)).setCell ⟨B, 5, none⟩ (.int .i64 m.s)).setCell ⟨B, 6, none⟩ (.int .i64 m.h)).setCell ⟨B, 7, none⟩ (.slice x.D x.k x.e)
theorem put8_below {w0 w : World} {k B : Nat} (h : Below k w0 w) (hB : k ≤ B) (x : Mc) (m : Mh) : Below k w0 (put8 w B x m) :=
  (((((((h.setCell (p := ⟨B, 0, none⟩) hB _).setCell (p := ⟨B, 1, none⟩) hB _).setCell (p := ⟨B, 2, none⟩) hB _).setCell (p := ⟨B, 3, none⟩) hB _).setCell (p := ⟨B, 4, none⟩) hB _).setCell (p := ⟨B, 5, none⟩) hB _).setCell (p := ⟨B, 6, none⟩) hB _).setCell (p := ⟨B, 7, none⟩) hB _
theorem put8_mb {w : World} {B : Nat} {y : Mc} {k : Mh} (h : Mb w B y k) (x : Mc) (m : Mh) : Mb (put8 w B x m) B x m := by
  obtain ⟨h0, h1, h2, h3, h4, h5, h6, h7, h8⟩ := h
  unfold put8
  refine ⟨by simpa using h0, ?_, ?_, ?_, ?_, ?_, ?_, ?_, ?_⟩ <;> simp [go_sem, h1, h2, h3, h4, h5, h6, h7, h8]

theorem Mb.setA {w : World} {B : Nat} {x : Mc} {m : Mh} (h : Mb w B x m) (A : Option Addr) (c : Nat) (a : List Int) (n : Nat) (hn : a.length = n) : Mb (w.setCell ⟨B, 0, none⟩ (.slice A n c)) B { x with A := A, c := c } { m with a := a } := by
  subst hn
  obtain ⟨h0, h1, h2, h3, h4, h5, h6, h7, h8⟩ := h
  refine ⟨by simpa using h0, ?_, ?_, ?_, ?_, ?_, ?_, ?_, ?_⟩ <;> simp [go_sem, h1, h2, h3, h4, h5, h6, h7, h8]
theorem Mb.setB {w : World} {B : Nat} {x : Mc} {m : Mh} (h : Mb w B x m) (A : Option Addr) (c : Nat) (a : List Int) (n : Nat) (hn : a.length = n) : Mb (w.setCell ⟨B, 1, none⟩ (.slice A n c)) B { x with B := A, d := c } { m with l := a } := by
  subst hn
  obtain ⟨h0, h1, h2, h3, h4, h5, h6, h7, h8⟩ := h
  refine ⟨by simpa using h0, ?_, ?_, ?_, ?_, ?_, ?_, ?_, ?_⟩ <;> simp [go_sem, h1, h2, h3, h4, h5, h6, h7, h8]
theorem Mb.setR {w : World} {B : Nat} {x : Mc} {m : Mh} (h : Mb w B x m) (z : Int) : Mb (w.setCell ⟨B, 2, none⟩ (.int .u8 z)) B x { m with r := z } := by
  obtain ⟨h0, h1, h2, h3, h4, h5, h6, h7, h8⟩ := h
  refine ⟨by simpa using h0, ?_, ?_, ?_, ?_, ?_, ?_, ?_, ?_⟩ <;> simp [go_sem, h1, h2, h3, h4, h5, h6, h7, h8]
theorem Mb.setQ {w : World} {B : Nat} {x : Mc} {m : Mh} (h : Mb w B x m) (z : Bool) : Mb (w.setCell ⟨B, 3, none⟩ (.bool z)) B x { m with q := z } := by
  obtain ⟨h0, h1, h2, h3, h4, h5, h6, h7, h8⟩ := h
  refine ⟨by simpa using h0, ?_, ?_, ?_, ?_, ?_, ?_, ?_, ?_⟩ <;> simp [go_sem, h1, h2, h3, h4, h5, h6, h7, h8]
theorem Mb.setF {w : World} {B : Nat} {x : Mc} {m : Mh} (h : Mb w B x m) (z : Int) : Mb (w.setCell ⟨B, 4, none⟩ (.int .i64 z)) B x { m with f := z } := by
  obtain ⟨h0, h1, h2, h3, h4, h5, h6, h7, h8⟩ := h
  refine ⟨by simpa using h0, ?_, ?_, ?_, ?_, ?_, ?_, ?_, ?_⟩ <;> simp [go_sem, h1, h2, h3, h4, h5, h6, h7, h8]
theorem Mb.setS {w : World} {B : Nat} {x : Mc} {m : Mh} (h : Mb w B x m) (z : Int) : Mb (w.setCell ⟨B, 5, none⟩ (.int .i64 z)) B x { m with s := z } := by
  obtain ⟨h0, h1, h2, h3, h4, h5, h6, h7, h8⟩ := h
  refine ⟨by simpa using h0, ?_, ?_, ?_, ?_, ?_, ?_, ?_, ?_⟩ <;> simp [go_sem, h1, h2, h3, h4, h5, h6, h7, h8]
theorem Mb.setH {w : World} {B : Nat} {x : Mc} {m : Mh} (h : Mb w B x m) (z : Int) : Mb (w.setCell ⟨B, 6, none⟩ (.int .i64 z)) B x { m with h := z } := by
  obtain ⟨h0, h1, h2, h3, h4, h5, h6, h7, h8⟩ := h
  refine ⟨by simpa using h0, ?_, ?_, ?_, ?_, ?_, ?_, ?_, ?_⟩ <;> simp [go_sem, h1, h2, h3, h4, h5, h6, h7, h8]
theorem Mb.setD {w : World} {B : Nat} {x : Mc} {m : Mh} (h : Mb w B x m) (A : Option Addr) (k e : Nat) : Mb (w.setCell ⟨B, 7, none⟩ (.slice A k e)) B { x with D := A, k := k, e := e } m := by
  obtain ⟨h0, h1, h2, h3, h4, h5, h6, h7, h8⟩ := h
  refine ⟨by simpa using h0, ?_, ?_, ?_, ?_, ?_, ?_, ?_, ?_⟩ <;> simp [go_sem, h1, h2, h3, h4, h5, h6, h7, h8]
theorem Rd.setc {w : World} {A : Option Addr} {c : Nat} {l : List Int} (h : Rd w A c l) {p : Addr} (hp : ∀ ad, A = some ad → 0 < l.length → ad.block ≠ p.block) (v : Value) : Rd (w.setCell p v) A c l := by
  refine ⟨h.1, h.2.1, h.2.2.1, ?_⟩
  rcases h.2.2.2 with hn | ⟨ad, ha, hc⟩
  · exact .inl hn
  · refine .inr ⟨ad, ha, fun i x hx => ?_⟩
    have hb : (ad.add i).block = ad.block := by unfold Addr.add; split <;> rfl
    rw [World.cell?_setCell_other _ _ _ _ (fun e => hp ad ha (by have := (List.getElem?_eq_some_iff.1 hx).1; omega) (by rw [← hb, ← e]))]
    exact hc i x hx
theorem Mf.keepM {w : World} {B : Nat} (h : Mf w B) : w.frozen? ⟨B, 0, none⟩ = false ∧ w.frozen? ⟨B, 1, none⟩ = false ∧ w.frozen? ⟨B, 2, none⟩ = false ∧ w.frozen? ⟨B, 3, none⟩ = false ∧ w.frozen? ⟨B, 4, none⟩ = false ∧ w.frozen? ⟨B, 5, none⟩ = false ∧ w.frozen? ⟨B, 6, none⟩ = false ∧ w.frozen? ⟨B, 7, none⟩ = false :=
  ⟨h.2 0, h.2 1, h.2 2, h.2 3, h.2 4, h.2 5, h.2 6, h.2 7⟩
/-- A row of the call's own. -/
abbrev fO (B : Nat) (A : Option Addr) (c : Nat) (l : List Int) : Fct := ⟨fun w => w.ownsRow B 5 1 (.slice A l.length c) l.length (cel l) ∧ Byt l, fun _ _ h hb => ⟨own_below h.1 hb (Nat.le_refl _), h.2⟩⟩
theorem rd_fO {B : Nat} {A : Option Addr} {c : Nat} {l : List Int} {w : World} (h : (fO B A c l).p w) : Rd w A c l := own_rd h.1 h.2
theorem put8_own {w : World} {N B e size n : Nat} {v : Value} {xs : List Value} (h : w.ownsRow N e size v n xs) (hB : B < N) (x : Mc) (m : Mh) : (put8 w B x m).ownsRow N e size v n xs :=
  ownsRow_setCell_below (ownsRow_setCell_below (ownsRow_setCell_below (ownsRow_setCell_below (ownsRow_setCell_below (ownsRow_setCell_below (ownsRow_setCell_below (ownsRow_setCell_below h hB _) hB _) hB _) hB _) hB _) hB _) hB _) hB _
theorem put8_rd {w : World} {B c : Nat} {A : Option Addr} {l : List Int} (h : Rd w A c l) (hB : ∀ ad, A = some ad → 0 < l.length → ad.block ≠ B) (x : Mc) (m : Mh) : Rd (put8 w B x m) A c l :=
  (((((((h.setc hB _).setc hB _).setc hB _).setc hB _).setc hB _).setc hB _).setc hB _).setc hB _
theorem Mb.drew {w : World} {B : Nat} {x : Mc} {m : Mh} (h : Mb w B x m) : Mb w.drew B x m := h
theorem own_succ {W : World} {base e size k : Nat} {v : Value} {xs : List Value} (h : W.ownsRow base e size v (k + 1) xs) : ∃ g cap, v = .slice (some ⟨g, 0, none⟩) (k + 1) cap := by
  rcases h.2 with ⟨_, h0⟩ | ⟨g, cap, _, rfl, _⟩
  · omega
  · exact ⟨g, cap, rfl⟩
/-- The cells of integers. -/
def ci (l : List Int) : List Value := l.map (Value.int .i64)
theorem ci_append (l m : List Int) : ci (l ++ m) = ci l ++ ci m := by simp [ci]
theorem ci_one (l : List Int) : ∀ u ∈ ci l, u.oneCell' = true := ints_oneCell _ _
/-- Integers in block B. -/
def Ia (w : World) (B : Nat) (l : List Int) : Prop := B < w.heap.size ∧ ∀ i z, l[i]? = some z → w.cell? ⟨B, i, none⟩ = some (.int .i64 z)
theorem Ia.keep {w w' : World} {B : Nat} {l : List Int} (h : Ia w B l) (hb : Below w.heap.size w w') : Ia w' B l := ⟨Nat.lt_of_lt_of_le h.1 hb.size, fun i z hi => ((bcell hb).1 _ _ h.1).trans (h.2 i z hi)⟩
theorem Ia.new (w : World) (l : List Int) (t : Nat) : Ia (w.alloc (.cells (ci l).toArray t)) w.heap.size l := ⟨by simp, fun i z hi => by simp [go_sem, ci, hi]⟩
abbrev fI (B : Nat) (l : List Int) : Fct := ⟨fun w => Ia w B l, fun _ _ h hb => h.keep hb⟩
theorem Tryd.infoN : (Tryd.prog.info? 3).map (fun i => (i.zero, i.size, i.bytes)) = some (some (.int .i64 0), 1, 8) := by kernel_rfl
end Go.Proofs.YtjdalgejejllgaaDoor
