/-
  Layer 16: a row of acts; a row of values of the call's own that is written over beside two things.
-/
import Derived.Test.YtkifapnmojfjoaaUh
namespace Go.Proofs.Ytkifapnmojfjoaa
open Go.RowKit
set_option maxRecDepth 100000
set_option linter.unusedSimpArgs false
set_option linter.unusedVariables false

/-- Six cells at ad. -/
def At16 (w : World) (ad : Addr) (y : A16) : Prop := w.cell? ad = some (.int .u8 y.k) ∧ w.cell? ⟨ad.block, ad.off + 1, none⟩ = some (.int .i64 y.i) ∧ w.cell? ⟨ad.block, ad.off + 2, none⟩ = some (.int .i64 y.n) ∧ w.cell? ⟨ad.block, ad.off + 3, none⟩ = some (.int .u8 y.v.1) ∧ w.cell? ⟨ad.block, ad.off + 4, none⟩ = some (.int .i64 y.v.2.1) ∧ w.cell? ⟨ad.block, ad.off + 5, none⟩ = some (.int .i64 y.v.2.2)
/-- The slice at A, of capacity c, reads as the acts L. -/
def Ra16 (w : World) (A : Option Addr) (c : Nat) (L : List A16) : Prop := (∀ y ∈ L, Ok16 y) ∧ L.length ≤ c ∧ c ≤ maxLen ∧ ((A = none ∧ c = 0) ∨ ∃ ad : Addr, A = some ad ∧ ∀ i y, L[i]? = some y → At16 w (ad.add (i * 6)) y)
theorem At16.keep {w w' : World} {ad : Addr} {y : A16} (h : At16 w ad y) (hb : Below w.heap.size w w') : At16 w' ad y := by
  obtain ⟨h0, h1, h2, h3, h4, h5⟩ := h
  exact ⟨(hb.cell (cell_lt h0)).trans h0, (hb.cell (cell_lt h1)).trans h1, (hb.cell (cell_lt h2)).trans h2, (hb.cell (cell_lt h3)).trans h3, (hb.cell (cell_lt h4)).trans h4, (hb.cell (cell_lt h5)).trans h5⟩
theorem Ra16.keep {w w' : World} {A : Option Addr} {c : Nat} {L : List A16} (h : Ra16 w A c L) (hb : Below w.heap.size w w') : Ra16 w' A c L := by
  refine ⟨h.1, h.2.1, h.2.2.1, ?_⟩
  rcases h.2.2.2 with hn | ⟨ad, ha, hc⟩
  · exact .inl hn
  · exact .inr ⟨ad, ha, fun i y hy => (hc i y hy).keep hb⟩
theorem Ra16.at_ {w : World} {A : Option Addr} {c : Nat} {L : List A16} (h : Ra16 w A c L) {i : Nat} {y : A16} (hi : L[i]? = some y) : ∃ ad : Addr, A = some ad ∧ At16 w (ad.add (i * 6)) y ∧ Ok16 y := by
  have h1 := (List.getElem?_eq_some_iff.1 hi).1
  rcases h.2.2.2 with ⟨_, hc⟩ | ⟨ad, ha, hc⟩
  · have := h.2.1; omega
  · exact ⟨ad, ha, hc i y hi, h.1 y (List.mem_of_getElem? hi)⟩
theorem Two15.other {w0 w w' : World} {S T : Th15} {Z : Nat → Prop} (h : Two15 w0 w S T) (hf : Fr11 Z w w') (hs : ∀ j, S.X j → ¬ Z j) (ht : ∀ j, T.X j → ¬ Z j) (hz : ∀ j, Z j → w0.heap.size ≤ j) : Two15 w0 w' S T :=
  ⟨h.be.trans (hf.below fun j hj => ⟨Nat.lt_of_lt_of_le hj h.be.size, fun hx => by have := hz j hx; omega⟩), S.fr _ _ _ h.s hf hs, T.fr _ _ _ h.t hf ht, h.los, h.lot, h.ap⟩
/-- A row of values of the call's own, at whatever blocks from b on. -/
def Mi16 (b : Nat) (A : Option Addr) (n c : Nat) (w : World) : Prop := ∃ M : List Vlu, M.length = n ∧ w.ownsRow 0 33 3 (.slice A n c) n (cev M) ∧ ∀ a, A = some a → b ≤ a.block
def mX16 (A : Option Addr) : Nat → Prop := fun j => ∃ a, A = some a ∧ a.block = j
theorem Mi16.of_own {w : World} {b n c : Nat} {A : Option Addr} {L : List Vlu} (h : w.ownsRow b 33 3 (.slice A n c) n (cev L)) (hl : L.length = n) : Mi16 b A n c w := by
  refine ⟨L, hl, ⟨h.1, ?_⟩, ?_⟩
  · rcases h.2 with h2 | ⟨g, cap, cur, hv, _, r⟩
    · exact .inl h2
    · exact .inr ⟨g, cap, cur, hv, Nat.zero_le _, r⟩
  · intro a ha
    subst ha
    rcases h.2 with ⟨h2, _⟩ | ⟨g, cap, cur, hv, hb, r⟩
    · cases h2
    · injection hv with e1
      injection e1 with e1
      subst e1
      exact hb
theorem Mi16.fr {w w' : World} {b n c : Nat} {A : Option Addr} {Y : Nat → Prop} (h : Mi16 b A n c w) (hf : Fr11 Y w w') (hx : ∀ j, mX16 A j → ¬ Y j) : Mi16 b A n c w' := by
  obtain ⟨M, h1, h2, h3⟩ := h
  exact ⟨M, h1, own_fr16 h2 hf fun a ha => hx _ ⟨a, ha, rfl⟩, h3⟩
theorem Mi16.lt {w : World} {b n c : Nat} {A : Option Addr} (h : Mi16 b A n c w) : ∀ j, mX16 A j → j < w.heap.size := by
  rintro j ⟨a, ha, rfl⟩
  obtain ⟨M, h1, h2, h3⟩ := h
  obtain ⟨cur, hc⟩ := own_ty16 h2 ha
  exact (Array.getElem?_eq_some_iff.1 hc).1
/-- One of its values written over by the zero value. -/
theorem Mi16.at_ {w : World} {b n c k : Nat} {A : Option Addr} (h : Mi16 b A n c w) (hk : k < n) : ∃ (g : Nat) (x : Vlu), A = some ⟨g, 0, none⟩ ∧ w.cell? ⟨g, k * 3, none⟩ = some (.int .u8 x.1) ∧ w.cell? ⟨g, k * 3 + 1, none⟩ = some (.int .i64 x.2.1) ∧ w.cell? ⟨g, k * 3 + 2, none⟩ = some (.int .i64 x.2.2) ∧ (∀ j, w.frozen? ⟨g, j, none⟩ = false) ∧ Mi16 b A n c (st16 w g k (0, 0, 0)) ∧ Fr11 (mX16 A) w (st16 w g k (0, 0, 0)) := by
  obtain ⟨M, h1, h2, h3⟩ := h
  obtain ⟨g, hA, ⟨a0, a1, a2⟩, hz⟩ := val16 h2 (List.getElem?_eq_getElem (by rw [h1]; exact hk) : M[k]? = some M[k])
  subst hA
  refine ⟨g, M[k], rfl, a0, a1, a2, hz, ⟨M.set k (0, 0, 0), by rw [List.length_set, h1], ?_, h3⟩, (st16_fr w g k (0, 0, 0)).mono fun j hj => ⟨_, rfl, hj.symm⟩⟩
  rw [← cev_set16 (0, 0, 0) (by rw [h1]; exact hk)]
  exact ((((h2).stored (k * 3) _).1).stored (k * 3 + 1) _).1.stored (k * 3 + 2) _ |>.1
end Go.Proofs.Ytkifapnmojfjoaa
