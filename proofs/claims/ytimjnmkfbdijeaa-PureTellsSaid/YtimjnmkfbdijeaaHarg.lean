/-
  A method that came in as an argument, by value, reads as a head.
-/
import Derived.Test.YtimjnmkfbdijeaaLk
import Derived.ProofKit
import Derived.OpenShut
import Derived.ChangeSame
import Derived.ChangeSlices
import Derived.ChangeArms
import Derived.Deep.Slices
import Derived.Deep.Fields
namespace Go.Proofs.Ytimjnmkfbdijeaa
open Go.ChangeShapes Go.WideShapes Go.ChangeAt Go.RowKit Go.Deep
set_option maxRecDepth 100000
set_option linter.unusedSimpArgs false
set_option linter.unusedVariables false

theorem metF : ((Try.prog.fieldsOf 52).map fun f => (f.offset, f.type)) = #[(0, 49), (1, 49), (2, 5), (3, 4), (4, 3), (5, 3), (6, 3), (7, 50)] := by kernel_rfl
theorem metF_at {j : Nat} {o t : Nat} (h : (#[(0, 49), (1, 49), (2, 5), (3, 4), (4, 3), (5, 3), (6, 3), (7, 50)] : Array (Nat × TypeId))[j]? = some (o, t)) : ∃ f, (Try.prog.fieldsOf 52)[j]? = some f ∧ f.offset = o ∧ f.type = t := by
  rw [← metF, Array.getElem?_map, Option.map_eq_some_iff] at h
  obtain ⟨f, h1, h2⟩ := h
  simp only [Prod.mk.injEq] at h2
  exact ⟨f, h1, h2.1, h2.2⟩
section
variable {H : Type} {enc : TypeId × Value → H} {w : World} {base : Nat} {sp : Nat → Bool} {held : Bool} {fuel : Nat}
/-- One cell that reads as a slice of bytes. -/
theorem one_u8s {v : Value} {x : DataW H × List MemPlace} (h : DataW.trod enc Try.prog w base sp held fuel 49 [v] = some x) : ∃ (A : Option Addr) (c : Nat) (l : List Int), v = .slice A l.length c ∧ Rd w A c l := by
  rcases open_ints Try.underlying49 Try.underlying5 (by kernel_rfl) h with ⟨h0, _⟩ | ⟨a, len, cap, zs, h0, _, hl, hm, hz, _, hc, hw⟩
  · simp at h0
    exact ⟨none, 0, [], h0, Rd.none_ _⟩
  · simp at h0
    have hle : len ≤ zs.length := by rw [hz]; split <;> omega
    have hlen : (zs.take len).length = len := by simp; omega
    refine ⟨some a, cap, zs.take len, by rw [hlen]; exact h0, ?_, by rw [hlen]; exact hl, hm, .inr ⟨a, rfl, fun i y hy => ?_⟩⟩
    · intro n hn
      have := bounds_u8 (hw n (List.mem_of_mem_take hn))
      omega
    · rw [List.getElem?_take] at hy
      split at hy
      · have hlt := (List.getElem?_eq_some_iff.1 hy).1
        rw [hc i hlt, List.getD_eq_getElem?_getD, hy]
        rfl
      · cases hy
theorem one_insA {v : Value} {x : DataW H × List MemPlace} (h : DataW.trod enc Try.prog w base sp held fuel 50 [v] = some x) : ∃ (D : Option Addr) (k e : Nat), v = .slice D k e := by
  rcases open_slice Try.underlying50 h with ⟨h0, _⟩ | ⟨a, len, cap, m, n, D, Pl, h0, _⟩
  · simp at h0
    exact ⟨none, 0, 0, h0⟩
  · simp at h0
    exact ⟨some a, len, cap, h0⟩
/-- A method's cells, out of their reading. -/
theorem one_met {cs : List Value} {x : DataW H × List MemPlace} (h : DataW.trod enc Try.prog w base sp held fuel 52 cs = some x) :
    ∃ (y : Mc) (m : Mh), Value.agg cs.toArray = mv y m ∧ Hd w y m := by
  have hS : Try.prog.underlying 52 = some (.struct (Try.prog.fieldsOf 52)) := by kernel_rfl
  have hC : Try.prog.cellsOf 52 = 8 := by kernel_rfl
  have c1 : Try.prog.cellsOf 49 = 1 := by kernel_rfl
  have c2 : Try.prog.cellsOf 5 = 1 := by kernel_rfl
  have c3 : Try.prog.cellsOf 4 = 1 := by kernel_rfl
  have c4 : Try.prog.cellsOf 3 = 1 := by kernel_rfl
  have c5 : Try.prog.cellsOf 50 = 1 := by kernel_rfl
  obtain ⟨xs, n, _, _, hlen, hxs, hg⟩ := DataW.trod_struct hS h
  rw [hC] at hlen
  match cs, hlen with
  | [v0, v1, v2, v3, v4, v5, v6, v7], _ =>
    have hn : xs.length = 8 := by rw [hxs]; kernel_rfl
    obtain ⟨f0, a0, o0, t0⟩ := metF_at (j := 0) rfl
    obtain ⟨f1, a1, o1, t1⟩ := metF_at (j := 1) rfl
    obtain ⟨f2, a2, o2, t2⟩ := metF_at (j := 2) rfl
    obtain ⟨f3, a3, o3, t3⟩ := metF_at (j := 3) rfl
    obtain ⟨f4, a4, o4, t4⟩ := metF_at (j := 4) rfl
    obtain ⟨f5, a5, o5, t5⟩ := metF_at (j := 5) rfl
    obtain ⟨f6, a6, o6, t6⟩ := metF_at (j := 6) rfl
    obtain ⟨f7, a7, o7, t7⟩ := metF_at (j := 7) rfl
    have g0 := hg 0 f0 a0
    have g1 := hg 1 f1 a1
    have g2 := hg 2 f2 a2
    have g3 := hg 3 f3 a3
    have g4 := hg 4 f4 a4
    have g5 := hg 5 f5 a5
    have g6 := hg 6 f6 a6
    have g7 := hg 7 f7 a7
    rw [o0, t0, c1, List.getElem?_eq_getElem (by omega)] at g0
    rw [o1, t1, c1, List.getElem?_eq_getElem (by omega)] at g1
    rw [o2, t2, c2, List.getElem?_eq_getElem (by omega)] at g2
    rw [o3, t3, c3, List.getElem?_eq_getElem (by omega)] at g3
    rw [o4, t4, c4, List.getElem?_eq_getElem (by omega)] at g4
    rw [o5, t5, c4, List.getElem?_eq_getElem (by omega)] at g5
    rw [o6, t6, c4, List.getElem?_eq_getElem (by omega)] at g6
    rw [o7, t7, c5, List.getElem?_eq_getElem (by omega)] at g7
    obtain ⟨A, c, a, rfl, hA⟩ := one_u8s (v := v0) g0
    obtain ⟨B, d, b, rfl, hB⟩ := one_u8s (v := v1) g1
    obtain ⟨r, e2, _, w2⟩ := DataW.trod_int Try.underlying5 g2
    obtain ⟨q, e3, _⟩ := DataW.trod_bool Try.underlying4 g3
    obtain ⟨f, e4, _, w4⟩ := DataW.trod_int Try.underlying3 g4
    obtain ⟨s, e5, _, w5⟩ := DataW.trod_int Try.underlying3 g5
    obtain ⟨hh, e6, _, w6⟩ := DataW.trod_int Try.underlying3 g6
    obtain ⟨D, k, e, rfl⟩ := one_insA (v := v7) g7
    simp at e2 e3 e4 e5 e6
    subst e2 e3 e4 e5 e6
    have b2 := bounds_u8 w2
    have b4 := bounds_i64 w4
    have b5 := bounds_i64 w5
    have b6 := bounds_i64 w6
    exact ⟨⟨A, c, B, d, D, k, e⟩, ⟨a, b, r, q, f, s, hh⟩, rfl, hA, hB, ⟨⟨b2.1, by dsimp only; omega⟩, b4, b5, b6⟩⟩
/-- What the walk is told of a method that came in. -/
theorem row_met {cs : Array Value} {d : DataW H} {p : List MemPlace} (h : DataW.Trod enc Try.prog w base sp held 52 (.agg cs) d p) : ∃ (y : Mc) (m : Mh), Value.agg cs = mv y m ∧ Hd w y m := by
  obtain ⟨fuel, hf⟩ := h
  have := one_met hf
  simpa [Value.cells] using this
end
end Go.Proofs.Ytimjnmkfbdijeaa
