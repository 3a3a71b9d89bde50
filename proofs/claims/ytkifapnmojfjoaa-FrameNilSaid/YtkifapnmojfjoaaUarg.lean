/-
  Layer 16's arguments: acts, by value and in a slice.
-/
import Derived.Test.YtkifapnmojfjoaaUi
import Derived.Test.YtkifapnmojfjoaaPvArg
import Derived.ProofKit
import Derived.OpenShut
import Derived.ChangeSame
import Derived.Deep.Slices
import Derived.Deep.Fields
namespace Go.Proofs.Ytkifapnmojfjoaa
open Go.ChangeShapes Go.WideShapes Go.ChangeAt Go.RowKit Go.Deep
set_option maxRecDepth 100000
set_option linter.unusedSimpArgs false
set_option linter.unusedVariables false

theorem vad16 (a : Addr) (i j : Nat) (hj : 0 < j) : a.add (i * 6 + j) = ⟨(a.add (i * 6)).block, (a.add (i * 6)).off + j, none⟩ := by
  unfold Addr.add
  rw [if_neg (by omega)]
  split
  · rename_i h; simp; try omega
  · simp; try omega
/-- The four fields of an act: their offsets and types. -/
theorem actF16 : ((Try.prog.fieldsOf 36).map fun f => (f.offset, f.type)) = #[(0, 5), (1, 3), (2, 3), (3, 33)] := by kernel_rfl
theorem actF16_at {j : Nat} {o t : Nat} (h : (#[(0, 5), (1, 3), (2, 3), (3, 33)] : Array (Nat × TypeId))[j]? = some (o, t)) : ∃ f, (Try.prog.fieldsOf 36)[j]? = some f ∧ f.offset = o ∧ f.type = t := by
  rw [← actF16, Array.getElem?_map, Option.map_eq_some_iff] at h
  obtain ⟨f, h1, h2⟩ := h
  simp only [Prod.mk.injEq] at h2
  exact ⟨f, h1, h2.1, h2.2⟩
/-- One act's cells, out of their reading. -/
theorem one_act16 {H : Type} {enc : TypeId × Value → H} {w : World} {base : Nat} {sp : Nat → Bool} {held : Bool} {fuel : Nat} {cs : List Value} {x : DataW H × List MemPlace} (h : DataW.trod enc Try.prog w base sp held fuel 36 cs = some x) :
    ∃ y : A16, Ok16 y ∧ cs = [.int .u8 y.k, .int .i64 y.i, .int .i64 y.n, .int .u8 y.v.1, .int .i64 y.v.2.1, .int .i64 y.v.2.2] := by
  have hS : Try.prog.underlying 36 = some (.struct (Try.prog.fieldsOf 36)) := by kernel_rfl
  have hC : Try.prog.cellsOf 36 = 6 := by kernel_rfl
  have c1 : Try.prog.cellsOf 5 = 1 := by kernel_rfl
  have c2 : Try.prog.cellsOf 3 = 1 := by kernel_rfl
  have c3 : Try.prog.cellsOf 33 = 3 := by kernel_rfl
  obtain ⟨xs, n, _, _, hlen, hxs, hg⟩ := DataW.trod_struct hS h
  rw [hC] at hlen
  match cs, hlen with
  | [v0, v1, v2, v3, v4, v5], _ =>
    have hn : xs.length = 4 := by rw [hxs]; kernel_rfl
    obtain ⟨f0, a0, o0, t0⟩ := actF16_at (j := 0) rfl
    obtain ⟨f1, a1, o1, t1⟩ := actF16_at (j := 1) rfl
    obtain ⟨f2, a2, o2, t2⟩ := actF16_at (j := 2) rfl
    obtain ⟨f3, a3, o3, t3⟩ := actF16_at (j := 3) rfl
    have g0 := hg 0 f0 a0
    have g1 := hg 1 f1 a1
    have g2 := hg 2 f2 a2
    have g3 := hg 3 f3 a3
    rw [o0, t0, c1, List.getElem?_eq_getElem (by omega)] at g0
    rw [o1, t1, c2, List.getElem?_eq_getElem (by omega)] at g1
    rw [o2, t2, c2, List.getElem?_eq_getElem (by omega)] at g2
    rw [o3, t3, c3, List.getElem?_eq_getElem (by omega)] at g3
    obtain ⟨k, e0, _, w0⟩ := DataW.trod_int Try.underlying5 g0
    obtain ⟨a, e1, _, w1⟩ := DataW.trod_int Try.underlying3 g1
    obtain ⟨b, e2, _, w2⟩ := DataW.trod_int Try.underlying3 g2
    obtain ⟨v, hv, e3⟩ := one_vlu g3
    simp at e0 e1 e2 e3
    obtain ⟨e3, e4, e5⟩ := e3
    subst e0 e1 e2 e3 e4 e5
    have b0 := bounds_u8 w0
    have b1 := bounds_i64 w1
    have b2 := bounds_i64 w2
    exact ⟨⟨k, a, b, v⟩, ⟨⟨by dsimp only; omega, by dsimp only; omega⟩, b1, b2, hv⟩, rfl⟩
theorem open_act16 {H : Type} {enc : TypeId × Value → H} {w : World} {base : Nat} {sp : Nat → Bool} {held : Bool} {fuel : Nat} {cs : List Value} {x : DataW H × List MemPlace} (h : DataW.trod enc Try.prog w base sp held fuel 24 cs = some x) :
    cs = [.slice none 0 0] ∨ ∃ (a : Addr) (len cap : Nat) (L : List A16), cs = [.slice (some a) len cap] ∧ L.length = len ∧ Ra16 w (some a) cap L := by
  have hC : Try.prog.cellsOf 36 = 6 := by kernel_rfl
  rcases open_slice Try.underlying24 h with ⟨h0, _⟩ | ⟨a, len, cap, m, n, D, Pl, hcs, hb, hl, hm, hmm, hx, hi⟩
  · exact .inl h0
  · rw [hC] at hi
    have hle : len ≤ m := by rw [hmm]; split <;> omega
    have hy : ∀ i, i < len → ∃ y : A16, Ok16 y ∧ At16 w (a.add (i * 6)) y := by
      intro i hil
      obtain ⟨cs', hc, ht⟩ := hi i (by omega)
      obtain ⟨y, hok, rfl⟩ := one_act16 ht
      obtain ⟨_, _, hat⟩ := World.cells?_some hc
      have q0 := hat 0 (by omega)
      have q1 := hat 1 (by omega)
      have q2 := hat 2 (by omega)
      have q3 := hat 3 (by omega)
      have q4 := hat 4 (by omega)
      have q5 := hat 5 (by omega)
      rw [add_add] at q0 q1 q2 q3 q4 q5
      rw [vad16 _ _ _ (by omega)] at q1 q2 q3 q4 q5
      exact ⟨y, hok, by simpa using q0, by simpa using q1, by simpa using q2, by simpa using q3, by simpa using q4, by simpa using q5⟩
    refine .inr ⟨a, len, cap, (List.range len).map fun i => if hil : i < len then (hy i hil).choose else ⟨0, 0, 0, (0, 0, 0)⟩, hcs, by simp, ?_, by simp; omega, hm, .inr ⟨a, rfl, ?_⟩⟩
    · intro y hmem
      obtain ⟨i, hir, rfl⟩ := List.mem_map.1 hmem
      have hil := List.mem_range.1 hir
      rw [dif_pos hil]
      exact (hy i hil).choose_spec.1
    · intro i y hiy
      have hil : i < len := by simpa using (List.getElem?_eq_some_iff.1 hiy).1
      rw [List.getElem?_map, List.getElem?_range hil, Option.map_some, dif_pos hil] at hiy
      obtain rfl := Option.some.inj hiy
      exact (hy i hil).choose_spec.2
/-- What the walk is told of a slice of acts that came in. -/
theorem row_acts16 {H : Type} {enc : TypeId × Value → H} {w : World} {base : Nat} {sp : Nat → Bool} {held : Bool} {A : Option Addr} {n c : Nat} {d : DataW H} {p : List MemPlace} (h : DataW.Trod enc Try.prog w base sp held 24 (.slice A n c) d p) : ∃ L : List A16, L.length = n ∧ Ra16 w A c L := by
  obtain ⟨fuel, hf⟩ := h
  rcases open_act16 hf with h0 | ⟨a, len, cap, L, h0, hl, hr⟩
  · simp [Value.cells] at h0
    obtain ⟨rfl, rfl, rfl⟩ := h0
    exact ⟨[], rfl, fun y hy => (by cases hy), Nat.le_refl _, Nat.zero_le _, .inl ⟨rfl, rfl⟩⟩
  · simp [Value.cells] at h0
    obtain ⟨rfl, rfl, rfl⟩ := h0
    exact ⟨L, hl, hr⟩
/-- An act that came in by value. -/
theorem row_act16 {H : Type} {enc : TypeId × Value → H} {w : World} {base : Nat} {sp : Nat → Bool} {held : Bool} {cs : Array Value} {d : DataW H} {p : List MemPlace} (h : DataW.Trod enc Try.prog w base sp held 36 (.agg cs) d p) : ∃ y : A16, Value.agg cs = .agg (ac16 y.k y.i y.n y.v.1 y.v.2.1 y.v.2.2) ∧ Ok16 y := by
  obtain ⟨fuel, hf⟩ := h
  obtain ⟨y, hok, hcs⟩ := one_act16 hf
  refine ⟨y, ?_, hok⟩
  have hcs : cs.toList = [.int .u8 y.k, .int .i64 y.i, .int .i64 y.n, .int .u8 y.v.1, .int .i64 y.v.2.1, .int .i64 y.v.2.2] := by simpa [Value.cells] using hcs
  congr 1
  exact Array.ext' hcs
end Go.Proofs.Ytkifapnmojfjoaa
