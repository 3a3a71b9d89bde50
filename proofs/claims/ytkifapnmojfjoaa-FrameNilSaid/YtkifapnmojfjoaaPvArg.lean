/-
  A slice of values that came in as an argument reads as a list.
-/
import Derived.Test.YtkifapnmojfjoaaPv
import Derived.ProofKit
import Derived.OpenShut
import Derived.ChangeSame
import Derived.Deep.Slices
import Derived.Deep.Fields
namespace Go.Proofs.Ytkifapnmojfjoaa
open Go.ChangeShapes Go.WideShapes Go.ChangeAt Go.RowKit Go.Deep
set_option maxRecDepth 100000

/-- The three fields of an value: their offsets and types. -/
theorem valF : ((Try.prog.fieldsOf 33).map fun f => (f.offset, f.type)) = #[(0, 5), (1, 2), (2, 2)] := by kernel_rfl
theorem valF_at {j : Nat} {o t : Nat} (h : (#[(0, 5), (1, 2), (2, 2)] : Array (Nat × TypeId))[j]? = some (o, t)) : ∃ f, (Try.prog.fieldsOf 33)[j]? = some f ∧ f.offset = o ∧ f.type = t := by
  rw [← valF, Array.getElem?_map, Option.map_eq_some_iff] at h
  obtain ⟨f, h1, h2⟩ := h
  simp only [Prod.mk.injEq] at h2
  exact ⟨f, h1, h2.1, h2.2⟩
/-- One value's cells, out of their reading. -/
theorem one_vlu {H : Type} {enc : TypeId × Value → H} {w : World} {base : Nat} {sp : Nat → Bool} {held : Bool} {fuel : Nat} {cs : List Value} {x : DataW H × List MemPlace} (h : DataW.trod enc Try.prog w base sp held fuel 33 cs = some x) :
    ∃ y : Vlu, VlOk y ∧ cs = [.int .u8 y.1, .int .i64 y.2.1, .int .i64 y.2.2] := by
  have hS : Try.prog.underlying 33 = some (.struct (Try.prog.fieldsOf 33)) := by kernel_rfl
  have hC : Try.prog.cellsOf 33 = 3 := by kernel_rfl
  have c1 : Try.prog.cellsOf 5 = 1 := by kernel_rfl
  have c2 : Try.prog.cellsOf 2 = 1 := by kernel_rfl
  obtain ⟨xs, n, _, _, hlen, hxs, hg⟩ := DataW.trod_struct hS h
  rw [hC] at hlen
  match cs, hlen with
  | [v0, v1, v2], _ =>
    have hn : xs.length = 3 := by rw [hxs]; kernel_rfl
    obtain ⟨f0, a0, o0, t0⟩ := valF_at (j := 0) rfl
    obtain ⟨f1, a1, o1, t1⟩ := valF_at (j := 1) rfl
    obtain ⟨f2, a2, o2, t2⟩ := valF_at (j := 2) rfl
    have g0 := hg 0 f0 a0
    have g1 := hg 1 f1 a1
    have g2 := hg 2 f2 a2
    rw [o0, t0, c1, List.getElem?_eq_getElem (by omega)] at g0
    rw [o1, t1, c2, List.getElem?_eq_getElem (by omega)] at g1
    rw [o2, t2, c2, List.getElem?_eq_getElem (by omega)] at g2
    obtain ⟨k, e0, _, w0⟩ := DataW.trod_int Try.underlying5 g0
    obtain ⟨a, e1, _, w1⟩ := DataW.trod_int Try.underlying2 g1
    obtain ⟨b, e2, _, w2⟩ := DataW.trod_int Try.underlying2 g2
    simp at e0 e1 e2
    subst e0 e1 e2
    have b0 := bounds_u8 w0
    have b1 := bounds_i64 w1
    have b2 := bounds_i64 w2
    exact ⟨(k, a, b), by unfold VlOk; simp only; omega, rfl⟩
theorem open_vlu {H : Type} {enc : TypeId × Value → H} {w : World} {base : Nat} {sp : Nat → Bool} {held : Bool} {fuel : Nat} {cs : List Value} {x : DataW H × List MemPlace} (h : DataW.trod enc Try.prog w base sp held fuel 23 cs = some x) :
    cs = [.slice none 0 0] ∨ ∃ (a : Addr) (len cap : Nat) (L : List Vlu), cs = [.slice (some a) len cap] ∧ L.length = len ∧ Rv w (some a) cap L := by
  have hC : Try.prog.cellsOf 33 = 3 := by kernel_rfl
  rcases open_slice Try.underlying23 h with ⟨h0, _⟩ | ⟨a, len, cap, m, n, D, Pl, hcs, hb, hl, hm, hmm, hx, hi⟩
  · exact .inl h0
  · rw [hC] at hi
    have hle : len ≤ m := by rw [hmm]; split <;> omega
    have hy : ∀ i, i < len → ∃ y : Vlu, VlOk y ∧ w.cell? (a.add (i * 3)) = some (.int .u8 y.1) ∧ w.cell? ⟨(a.add (i * 3)).block, (a.add (i * 3)).off + 1, none⟩ = some (.int .i64 y.2.1) ∧ w.cell? ⟨(a.add (i * 3)).block, (a.add (i * 3)).off + 2, none⟩ = some (.int .i64 y.2.2) := by
      intro i hil
      obtain ⟨cs', hc, ht⟩ := hi i (by omega)
      obtain ⟨y, hok, rfl⟩ := one_vlu ht
      obtain ⟨_, _, hat⟩ := World.cells?_some hc
      have q0 := hat 0 (by omega)
      have q1 := hat 1 (by omega)
      have q2 := hat 2 (by omega)
      rw [add_add] at q0 q1 q2
      rw [vadd_1] at q1
      rw [vadd_2] at q2
      exact ⟨y, hok, by simpa using q0, by simpa using q1, by simpa using q2⟩
    refine .inr ⟨a, len, cap, (List.range len).map fun i => if hil : i < len then (hy i hil).choose else (0, 0, 0), hcs, by simp, ?_, by simp; omega, hm, .inr ⟨a, rfl, ?_⟩⟩
    · intro y hmem
      obtain ⟨i, hir, rfl⟩ := List.mem_map.1 hmem
      have hil := List.mem_range.1 hir
      rw [dif_pos hil]
      exact (hy i hil).choose_spec.1
    · intro i y hiy
      have hil : i < len := by simpa using (List.getElem?_eq_some_iff.1 hiy).1
      rw [List.getElem?_map, List.getElem?_range hil, Option.map_some, dif_pos hil] at hiy
      obtain rfl := Option.some.inj hiy
      exact (hy i hil).choose_spec.2
/-- What the walk is told of a slice of values that came in. -/
theorem row_vlu {H : Type} {enc : TypeId × Value → H} {w : World} {base : Nat} {sp : Nat → Bool} {held : Bool} {A : Option Addr} {n c : Nat} {d : DataW H} {p : List MemPlace} (h : DataW.Trod enc Try.prog w base sp held 23 (.slice A n c) d p) : ∃ L : List Vlu, L.length = n ∧ Rv w A c L := by
  obtain ⟨fuel, hf⟩ := h
  rcases open_vlu hf with h0 | ⟨a, len, cap, L, h0, hl, hr⟩
  · simp [Value.cells] at h0
    obtain ⟨rfl, rfl, rfl⟩ := h0
    exact ⟨[], rfl, Rv.none_ _⟩
  · simp [Value.cells] at h0
    obtain ⟨rfl, rfl, rfl⟩ := h0
    exact ⟨L, hl, hr⟩
theorem vlok_of {k a b : Int} (x : (Lit.int .u8 k).wf = true) (y : (Lit.int .i64 a).wf = true) (z : (Lit.int .i64 b).wf = true) : VlOk (k, a, b) := by
  have h1 := bounds_u8 x
  exact ⟨⟨h1.1, show k < 256 by omega⟩, bounds_i64 y, bounds_i64 z⟩
end Go.Proofs.Ytkifapnmojfjoaa
