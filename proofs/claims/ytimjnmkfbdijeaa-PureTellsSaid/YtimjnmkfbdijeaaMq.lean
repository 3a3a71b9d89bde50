/-
  Memory that is written over: a module's rows in blocks from lo to hi ('Ow'), a world that is as it was but for such blocks ('Sp'), and what lies apart from them stays.
-/
import Derived.Test.YtimjnmkfbdijeaaLm
namespace Go.Proofs.Ytimjnmkfbdijeaa
open Go.RowKit
set_option maxRecDepth 100000
set_option linter.unusedSimpArgs false
set_option linter.unusedVariables false

/-- But for the blocks from lo on, below hi, the world is as it was. -/
structure Sp (lo hi : Nat) (w w' : World) : Prop where
  os : w'.os = w.os
  tape : w'.tape = w.tape
  output : w'.output = w.output
  size : w.heap.size ≤ w'.heap.size
  block : ∀ k, k < w.heap.size → (k < lo ∨ hi ≤ k) → w'.heap[k]? = w.heap[k]?
section
variable {lo hi : Nat} {w w1 w2 : World}
theorem Sp.refl (lo hi : Nat) (w : World) : Sp lo hi w w := ⟨rfl, rfl, rfl, Nat.le_refl _, fun _ _ _ => rfl⟩
theorem Sp.trans (h : Sp lo hi w w1) (k : Sp lo hi w1 w2) : Sp lo hi w w2 :=
  ⟨k.os.trans h.os, k.tape.trans h.tape, k.output.trans h.output, Nat.le_trans h.size k.size, fun i hi hr => (k.block i (Nat.lt_of_lt_of_le hi h.size) hr).trans (h.block i hi hr)⟩
theorem Sp.of_below (h : Below w.heap.size w w1) : Sp lo hi w w1 := ⟨h.os, h.tape, h.output, h.size, fun k hk _ => h.block k hk⟩
theorem Sp.call (h : Sp lo hi w w1) (k : Below w1.heap.size w1 w2) : Sp lo hi w w2 := h.trans (Sp.of_below k)
theorem Sp.set (h : Sp lo hi w w1) {g : Nat} (h1 : lo ≤ g) (h2 : g < hi) (j : Nat) (v : Value) : Sp lo hi w (w1.setCell ⟨g, j, none⟩ v) :=
  h.trans ⟨rfl, rfl, rfl, by simp [World.setCell], fun k _ hr => Below.heap_setCell _ _ _ _ (show k ≠ g by omega)⟩
/-- A write to what is new. -/
theorem Sp.setN (h : Sp lo hi w w1) {g : Nat} (h1 : w.heap.size ≤ g) (j : Nat) (v : Value) : Sp lo hi w (w1.setCell ⟨g, j, none⟩ v) :=
  ⟨h.os, h.tape, h.output, by have := h.size; simpa [World.setCell] using this, fun k hk hr => (Below.heap_setCell _ _ _ _ (show k ≠ g by omega)).trans (h.block k hk hr)⟩
theorem Sp.toBelow (h : Sp lo hi w w1) (hl : lo ≤ w.heap.size) : Below lo w w1 := ⟨h.os, h.tape, h.output, h.size, fun k hk => h.block k (by omega) (.inl hk)⟩
theorem Sp.mono {lo' hi' : Nat} (h : Sp lo hi w w1) (h1 : lo' ≤ lo) (h2 : hi ≤ hi') : Sp lo' hi' w w1 := ⟨h.os, h.tape, h.output, h.size, fun k hk hr => h.block k hk (by omega)⟩
end
/-- The rows of a module in blocks from lo to hi, each of its elements' type. -/
def Owz (w : World) (lo hi : Nat) (z : Me) : Prop := Rs w lo hi 5 1 z.x.A z.m.a.length ∧ Rs w lo hi 5 1 z.x.B z.m.l.length ∧ Rs w lo hi 57 3 z.x.D z.x.k
def Ow (w : World) (lo hi : Nat) (y : Ma) (d : Md) : Prop :=
  Rs w lo hi 69 3 y.G d.g.length ∧ Rs w lo hi 69 3 y.P d.p.length ∧ Rs w lo hi 52 8 y.A d.s.length ∧ ∀ z ∈ y.Z, Owz w lo hi z
theorem Rs.none_ (w : World) (lo hi e size : Nat) (A : Option Addr) : Rs w lo hi e size A 0 := .inl rfl
theorem Rs.mono {w : World} {lo hi lo' hi' e size n : Nat} {A : Option Addr} (h : Rs w lo hi e size A n) (h1 : lo' ≤ lo) (h2 : hi ≤ hi') : Rs w lo' hi' e size A n := by
  rcases h with h | ⟨g, cur, a1, a2, a3, a4, a5⟩
  · exact .inl h
  · exact .inr ⟨g, cur, a1, by omega, by omega, a4, a5⟩
theorem Rs.above {w w' : World} {lo hi k e size n : Nat} {A : Option Addr} (h : Rs w lo hi e size A n) (hb : Below k w w') (h1 : hi ≤ k) : Rs w' lo hi e size A n := by
  rcases h with h | ⟨g, cur, a1, a2, a3, a4, a5⟩
  · exact .inl h
  · exact .inr ⟨g, cur, a1, a2, a3, (hb.block g (by omega)).trans a4, a5⟩
section
variable {w w' : World} {lo hi lo2 hi2 : Nat} {y : Ma} {d : Md} {z : Me}
theorem Owz.keep (h : Owz w lo hi z) (hb : Below w.heap.size w w') : Owz w' lo hi z := ⟨h.1.keep hb, h.2.1.keep hb, h.2.2.keep hb⟩
theorem Owz.set (h : Owz w lo hi z) (b j : Nat) (v : Value) : Owz (w.setCell ⟨b, j, none⟩ v) lo hi z := ⟨h.1.set b j v, h.2.1.set b j v, h.2.2.set b j v⟩
theorem Owz.mono (h : Owz w lo hi z) (h1 : lo2 ≤ lo) (h2 : hi ≤ hi2) : Owz w lo2 hi2 z := ⟨h.1.mono h1 h2, h.2.1.mono h1 h2, h.2.2.mono h1 h2⟩
theorem Ow.keep (h : Ow w lo hi y d) (hb : Below w.heap.size w w') : Ow w' lo hi y d := ⟨h.1.keep hb, h.2.1.keep hb, h.2.2.1.keep hb, fun z hz => (h.2.2.2 z hz).keep hb⟩
theorem Ow.set (h : Ow w lo hi y d) (b j : Nat) (v : Value) : Ow (w.setCell ⟨b, j, none⟩ v) lo hi y d := ⟨h.1.set b j v, h.2.1.set b j v, h.2.2.1.set b j v, fun z hz => (h.2.2.2 z hz).set b j v⟩
theorem Ow.mono (h : Ow w lo hi y d) (h1 : lo2 ≤ lo) (h2 : hi ≤ hi2) : Ow w lo2 hi2 y d := ⟨h.1.mono h1 h2, h.2.1.mono h1 h2, h.2.2.1.mono h1 h2, fun z hz => (h.2.2.2 z hz).mono h1 h2⟩
theorem Ow.zero (w : World) (lo hi : Nat) : Ow w lo hi Ma.zero Md.zero := ⟨.inl rfl, .inl rfl, .inl rfl, fun z hz => by cases hz⟩
/-- A row in blocks that have not changed reads as it did. -/
theorem Rs.blk {e size n : Nat} {A : Option Addr} (h : Rs w lo hi e size A n) (hn : 0 < n) : ∃ g, A = some ⟨g, 0, none⟩ ∧ lo ≤ g ∧ g < hi ∧ g < w.heap.size := by
  rcases h with h | ⟨g, cur, a1, a2, a3, a4, a5⟩
  · omega
  · exact ⟨g, a1, a2, a3, (Array.getElem?_eq_some_iff.1 a4).1⟩
theorem add_block (a : Addr) (i : Nat) : (a.add i).block = a.block := by unfold Addr.add; split <;> rfl
theorem Sp.at_ {p : Addr} (h : Sp lo hi w w') (h1 : p.block < w.heap.size) (h2 : p.block < lo ∨ hi ≤ p.block) : w'.cell? p = w.cell? p := World.cell?_of_block (w := w) (h.block p.block h1 h2)
theorem Rd.apart {A : Option Addr} {c e : Nat} {l : List Int} (h : Rd w A c l) (hs : Rs w lo2 hi2 e 1 A l.length) (hp : Sp lo hi w w') (ha : hi2 ≤ lo ∨ hi ≤ lo2) : Rd w' A c l := by
  refine ⟨h.1, h.2.1, h.2.2.1, ?_⟩
  rcases h.2.2.2 with hn | ⟨ad, rfl, hc⟩
  · exact .inl hn
  · refine .inr ⟨ad, rfl, fun i x hx => ?_⟩
    obtain ⟨g, e1, g1, g2, g3⟩ := hs.blk (by have := (List.getElem?_eq_some_iff.1 hx).1; omega)
    obtain rfl := Option.some.inj e1
    exact (hp.at_ (by rw [add_block]; exact g3) (by rw [add_block]; show g < lo ∨ hi ≤ g; omega)).trans (hc i x hx)
theorem Rv.apart {A : Option Addr} {c e : Nat} {l : List Vlu} (h : Rv w A c l) (hs : Rs w lo2 hi2 e 3 A l.length) (hp : Sp lo hi w w') (ha : hi2 ≤ lo ∨ hi ≤ lo2) : Rv w' A c l := by
  refine ⟨h.1, h.2.1, h.2.2.1, ?_⟩
  rcases h.2.2.2 with hn | ⟨ad, rfl, hc⟩
  · exact .inl hn
  · refine .inr ⟨ad, rfl, fun i x hx => ?_⟩
    obtain ⟨g, e1, g1, g2, g3⟩ := hs.blk (by have := (List.getElem?_eq_some_iff.1 hx).1; omega)
    obtain rfl := Option.some.inj e1
    obtain ⟨c1, c2, c3⟩ := hc i x hx
    have k : ∀ j, w'.cell? ⟨((⟨g, 0, none⟩ : Addr).add (i * 3)).block, j, none⟩ = w.cell? ⟨((⟨g, 0, none⟩ : Addr).add (i * 3)).block, j, none⟩ := fun j => hp.at_ (by show ((⟨g, 0, none⟩ : Addr).add (i * 3)).block < _; rw [add_block]; exact g3) (by show ((⟨g, 0, none⟩ : Addr).add (i * 3)).block < lo ∨ hi ≤ ((⟨g, 0, none⟩ : Addr).add (i * 3)).block; rw [add_block]; show g < lo ∨ hi ≤ g; omega)
    exact ⟨(hp.at_ (by rw [add_block]; exact g3) (by rw [add_block]; show g < lo ∨ hi ≤ g; omega)).trans c1, (k _).trans c2, (k _).trans c3⟩
theorem Ri.apart {A : Option Addr} {c e : Nat} {l : List Ins} (h : Ri w A c l) (hs : Rs w lo2 hi2 e 3 A l.length) (hp : Sp lo hi w w') (ha : hi2 ≤ lo ∨ hi ≤ lo2) : Ri w' A c l := by
  refine ⟨h.1, h.2.1, h.2.2.1, ?_⟩
  rcases h.2.2.2 with hn | ⟨ad, rfl, hc⟩
  · exact .inl hn
  · refine .inr ⟨ad, rfl, fun i x hx => ?_⟩
    obtain ⟨g, e1, g1, g2, g3⟩ := hs.blk (by have := (List.getElem?_eq_some_iff.1 hx).1; omega)
    obtain rfl := Option.some.inj e1
    obtain ⟨c1, c2, c3⟩ := hc i x hx
    have k : ∀ j, w'.cell? ⟨((⟨g, 0, none⟩ : Addr).add (i * 3)).block, j, none⟩ = w.cell? ⟨((⟨g, 0, none⟩ : Addr).add (i * 3)).block, j, none⟩ := fun j => hp.at_ (by show ((⟨g, 0, none⟩ : Addr).add (i * 3)).block < _; rw [add_block]; exact g3) (by show ((⟨g, 0, none⟩ : Addr).add (i * 3)).block < lo ∨ hi ≤ ((⟨g, 0, none⟩ : Addr).add (i * 3)).block; rw [add_block]; show g < lo ∨ hi ≤ g; omega)
    exact ⟨(hp.at_ (by rw [add_block]; exact g3) (by rw [add_block]; show g < lo ∨ hi ≤ g; omega)).trans c1, (k _).trans c2, (k _).trans c3⟩
theorem At8.apart {p : Addr} (h : At8 w p z) (hp : Sp lo hi w w') (ha : p.block < lo ∨ hi ≤ p.block) : At8 w' p z := by
  obtain ⟨h1, h2, h3, h4, h5, h6, h7, h8⟩ := h
  have k : ∀ {a : Addr} {v : Value}, a.block = p.block → w.cell? a = some v → w'.cell? a = some v := fun e hv => (hp.at_ (cell_lt hv) (by rw [e]; exact ha)).trans hv
  exact ⟨k rfl h1, k rfl h2, k rfl h3, k rfl h4, k rfl h5, k rfl h6, k rfl h7, k rfl h8⟩
theorem Hq.apart (h : Hq w y d) (ho : Ow w lo2 hi2 y d) (hp : Sp lo hi w w') (ha : hi2 ≤ lo ∨ hi ≤ lo2) : Hq w' y d := by
  refine ⟨h.1.apart ho.1 hp ha, h.2.1.apart ho.2.1 hp ha, ⟨fun z hz => ?_, h.2.2.1.2.1, h.2.2.1.2.2.1, ?_⟩, h.2.2.2⟩
  · obtain ⟨⟨k1, k2, k3⟩, k4, k5⟩ := h.2.2.1.1 z hz
    obtain ⟨o1, o2, o3⟩ := ho.2.2.2 z hz
    exact ⟨⟨k1.apart o1 hp ha, k2.apart o2 hp ha, k3⟩, k4.apart (by rw [k5]; exact o3) hp ha, k5⟩
  · rcases h.2.2.1.2.2.2 with hn | ⟨ad, e0, hc⟩
    · exact .inl hn
    · refine .inr ⟨ad, e0, fun i z hz => ?_⟩
      obtain ⟨g, e1, g1, g2, g3⟩ := ho.2.2.1.blk (by have := (List.getElem?_eq_some_iff.1 hz).1; rw [h.zlen] at this; omega)
      rw [e0] at e1
      obtain rfl := Option.some.inj e1
      exact (hc i z hz).apart hp (by rw [add_block]; show g < lo ∨ hi ≤ g; omega)
theorem Db.apart {B : Nat} (h : Db w B y d) (hp : Sp lo hi w w') (ha : B < lo ∨ hi ≤ B) : Db w' B y d := by
  obtain ⟨h0, h1, h2, h3, h4⟩ := h
  have k : ∀ {i : Nat} {v : Value}, w.cell? ⟨B, i, none⟩ = some v → w'.cell? ⟨B, i, none⟩ = some v := fun hv => (hp.at_ (cell_lt hv) ha).trans hv
  exact ⟨Nat.lt_of_lt_of_le h0 hp.size, k h1, k h2, k h3, k h4⟩
theorem Ow.apart (h : Ow w lo2 hi2 y d) (hp : Sp lo hi w w') (ha : hi2 ≤ lo ∨ hi ≤ lo2) : Ow w' lo2 hi2 y d := by
  have k : ∀ {e size n : Nat} {A : Option Addr}, Rs w lo2 hi2 e size A n → Rs w' lo2 hi2 e size A n := by
    intro e size n A h
    rcases h with h | ⟨g, cur, a1, a2, a3, a4, a5⟩
    · exact .inl h
    · exact .inr ⟨g, cur, a1, a2, a3, (hp.block g (Array.getElem?_eq_some_iff.1 a4).1 (by omega)).trans a4, a5⟩
  exact ⟨k h.1, k h.2.1, k h.2.2.1, fun z hz => ⟨k (h.2.2.2 z hz).1, k (h.2.2.2 z hz).2.1, k (h.2.2.2 z hz).2.2⟩⟩
end
end Go.Proofs.Ytimjnmkfbdijeaa
