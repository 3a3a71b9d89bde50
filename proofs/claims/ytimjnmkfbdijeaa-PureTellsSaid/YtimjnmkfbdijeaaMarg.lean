/-
  A module that came in as an argument, by value, reads as a module's data.
-/
import Derived.Test.YtimjnmkfbdijeaaLm
import Derived.Test.YtimjnmkfbdijeaaHarg
import Derived.Test.YtimjnmkfbdijeaaPvArg
import Derived.Test.YtimjnmkfbdijeaaInArg
namespace Go.Proofs.Ytimjnmkfbdijeaa
open Go.ChangeShapes Go.WideShapes Go.ChangeAt Go.RowKit Go.Deep
set_option maxRecDepth 100000
set_option linter.unusedSimpArgs false
set_option linter.unusedVariables false

theorem addp (ad : Addr) (k j : Nat) (h : 0 < j) : ad.add (k + j) = ⟨(ad.add k).block, (ad.add k).off + j, none⟩ := by
  unfold Addr.add
  rw [if_neg (by omega)]
  split
  · subst_vars; simp
  · simp; omega
section
variable {H : Type} {enc : TypeId × Value → H} {w : World} {base : Nat} {sp : Nat → Bool} {held : Bool} {fuel : Nat}
theorem one_insL {v : Value} {x : DataW H × List MemPlace} (h : DataW.trod enc Try.prog w base sp held fuel 50 [v] = some x) : ∃ (D : Option Addr) (e : Nat) (K : List Ins), v = .slice D K.length e ∧ Ri w D e K := by
  rcases open_ins h with h0 | ⟨a, len, cap, L, h0, hl, hr⟩
  · simp at h0
    exact ⟨none, 0, [], h0, Ri.none_ _⟩
  · simp at h0
    subst hl
    exact ⟨some a, cap, L, h0, hr⟩
theorem one_vluL {v : Value} {x : DataW H × List MemPlace} (h : DataW.trod enc Try.prog w base sp held fuel 22 [v] = some x) : ∃ (D : Option Addr) (e : Nat) (K : List Vlu), v = .slice D K.length e ∧ Rv w D e K := by
  rcases open_vlu h with h0 | ⟨a, len, cap, L, h0, hl, hr⟩
  · simp at h0
    exact ⟨none, 0, [], h0, Rv.none_ _⟩
  · simp at h0
    subst hl
    exact ⟨some a, cap, L, h0, hr⟩
/-- A method's cells, code and all. -/
theorem one_me {cs : List Value} {x : DataW H × List MemPlace} (h : DataW.trod enc Try.prog w base sp held fuel 52 cs = some x) : ∃ z : Me, cs = ce8 z ∧ z.ok w := by
  have hS : Try.prog.underlying 52 = some (.struct (Try.prog.fieldsOf 52)) := by kernel_rfl
  have hC : Try.prog.cellsOf 52 = 8 := by kernel_rfl
  have c1 : Try.prog.cellsOf 49 = 1 := by kernel_rfl
  have c2 : Try.prog.cellsOf 5 = 1 := by kernel_rfl
  have c3 : Try.prog.cellsOf 4 = 1 := by kernel_rfl
  have c4 : Try.prog.cellsOf 3 = 1 := by kernel_rfl
  have c5 : Try.prog.cellsOf 50 = 1 := by kernel_rfl
  obtain ⟨xs, n, _, _, hlen, hxs, hg⟩ := DataW.trod_struct hS h
  rw [hC] at hlen
  match cs, hlen with
  | [v0, v1, v2, v3, v4, v5, v6, v7], _ =>
    have hn : xs.length = 8 := by rw [hxs]; kernel_rfl
    obtain ⟨f0, a0, o0, t0⟩ := metF_at (j := 0) rfl
    obtain ⟨f1, a1, o1, t1⟩ := metF_at (j := 1) rfl
    obtain ⟨f2, a2, o2, t2⟩ := metF_at (j := 2) rfl
    obtain ⟨f3, a3, o3, t3⟩ := metF_at (j := 3) rfl
    obtain ⟨f4, a4, o4, t4⟩ := metF_at (j := 4) rfl
    obtain ⟨f5, a5, o5, t5⟩ := metF_at (j := 5) rfl
    obtain ⟨f6, a6, o6, t6⟩ := metF_at (j := 6) rfl
    obtain ⟨f7, a7, o7, t7⟩ := metF_at (j := 7) rfl
    have g0 := hg 0 f0 a0
    have g1 := hg 1 f1 a1
    have g2 := hg 2 f2 a2
    have g3 := hg 3 f3 a3
    have g4 := hg 4 f4 a4
    have g5 := hg 5 f5 a5
    have g6 := hg 6 f6 a6
    have g7 := hg 7 f7 a7
    rw [o0, t0, c1, List.getElem?_eq_getElem (by omega)] at g0
    rw [o1, t1, c1, List.getElem?_eq_getElem (by omega)] at g1
    rw [o2, t2, c2, List.getElem?_eq_getElem (by omega)] at g2
    rw [o3, t3, c3, List.getElem?_eq_getElem (by omega)] at g3
    rw [o4, t4, c4, List.getElem?_eq_getElem (by omega)] at g4
    rw [o5, t5, c4, List.getElem?_eq_getElem (by omega)] at g5
    rw [o6, t6, c4, List.getElem?_eq_getElem (by omega)] at g6
    rw [o7, t7, c5, List.getElem?_eq_getElem (by omega)] at g7
    obtain ⟨A, c, a, rfl, hA⟩ := one_u8s (v := v0) g0
    obtain ⟨B, d, b, rfl, hB⟩ := one_u8s (v := v1) g1
    obtain ⟨r, e2, _, w2⟩ := DataW.trod_int Try.underlying5 g2
    obtain ⟨q, e3, _⟩ := DataW.trod_bool Try.underlying4 g3
    obtain ⟨f, e4, _, w4⟩ := DataW.trod_int Try.underlying3 g4
    obtain ⟨s, e5, _, w5⟩ := DataW.trod_int Try.underlying3 g5
    obtain ⟨hh, e6, _, w6⟩ := DataW.trod_int Try.underlying3 g6
    obtain ⟨D, e, K, rfl, hK⟩ := one_insL (v := v7) g7
    simp at e2 e3 e4 e5 e6
    subst e2 e3 e4 e5 e6
    have b2 := bounds_u8 w2
    have b4 := bounds_i64 w4
    have b5 := bounds_i64 w5
    have b6 := bounds_i64 w6
    exact ⟨⟨⟨A, c, B, d, D, K.length, e⟩, ⟨a, b, r, q, f, s, hh⟩, K⟩, rfl, ⟨hA, hB, ⟨⟨b2.1, by dsimp only; omega⟩, b4, b5, b6⟩⟩, hK, rfl⟩
/-- The cells of one method, at its address. -/
theorem at8_of {p : Addr} {z : Me} (h : ∀ j, j < 8 → w.cell? (p.add j) = (ce8 z)[j]?) : At8 w p z := by
  have e : ∀ j, p.add (0 + (j + 1)) = ⟨p.block, p.off + (j + 1), none⟩ := fun j => by rw [addp p 0 (j + 1) (by omega)]; rfl
  have h0 := h 0 (by omega)
  have h1 := h (0 + (0 + 1)) (by omega)
  have h2 := h (0 + (1 + 1)) (by omega)
  have h3 := h (0 + (2 + 1)) (by omega)
  have h4 := h (0 + (3 + 1)) (by omega)
  have h5 := h (0 + (4 + 1)) (by omega)
  have h6 := h (0 + (5 + 1)) (by omega)
  have h7 := h (0 + (6 + 1)) (by omega)
  rw [e] at h1 h2 h3 h4 h5 h6 h7
  exact ⟨h0, h1, h2, h3, h4, h5, h6, h7⟩
theorem open_mets {cs : List Value} {x : DataW H × List MemPlace} (h : DataW.trod enc Try.prog w base sp held fuel 23 cs = some x) :
    cs = [.slice none 0 0] ∨ ∃ (a : Addr) (len cap : Nat) (Z : List Me), cs = [.slice (some a) len cap] ∧ Z.length = len ∧ Rm w (some a) cap Z := by
  have hC : Try.prog.cellsOf 52 = 8 := by kernel_rfl
  rcases open_slice Try.underlying23 h with ⟨h0, _⟩ | ⟨a, len, cap, m, n, D, Pl, hcs, hb, hl, hm, hmm, hx, hi⟩
  · exact .inl h0
  · rw [hC] at hi
    have hle : len ≤ m := by rw [hmm]; split <;> omega
    have hy : ∀ i, i < len → ∃ z : Me, z.ok w ∧ At8 w (a.add (i * 8)) z := by
      intro i hil
      obtain ⟨cs', hc, ht⟩ := hi i (by omega)
      obtain ⟨z, rfl, hok⟩ := one_me ht
      obtain ⟨_, _, hat⟩ := World.cells?_some hc
      exact ⟨z, hok, at8_of fun j hj => hat j hj⟩
    refine .inr ⟨a, len, cap, (List.range len).map fun i => if hil : i < len then (hy i hil).choose else ⟨Mc.zero, Mh.zero, []⟩, hcs, by simp, ?_, by simp; omega, hm, .inr ⟨a, rfl, ?_⟩⟩
    · intro z hmem
      obtain ⟨i, hir, rfl⟩ := List.mem_map.1 hmem
      have hil := List.mem_range.1 hir
      rw [dif_pos hil]
      exact (hy i hil).choose_spec.1
    · intro i z hiy
      have hil : i < len := by simpa using (List.getElem?_eq_some_iff.1 hiy).1
      rw [List.getElem?_map, List.getElem?_range hil, Option.map_some, dif_pos hil] at hiy
      obtain rfl := Option.some.inj hiy
      exact (hy i hil).choose_spec.2
theorem modF : ((Try.prog.fieldsOf 25).map fun f => (f.offset, f.type)) = #[(0, 22), (1, 22), (2, 23), (3, 3)] := by kernel_rfl
theorem modF_at {j : Nat} {o t : Nat} (h : (#[(0, 22), (1, 22), (2, 23), (3, 3)] : Array (Nat × TypeId))[j]? = some (o, t)) : ∃ f, (Try.prog.fieldsOf 25)[j]? = some f ∧ f.offset = o ∧ f.type = t := by
  rw [← modF, Array.getElem?_map, Option.map_eq_some_iff] at h
  obtain ⟨f, h1, h2⟩ := h
  simp only [Prod.mk.injEq] at h2
  exact ⟨f, h1, h2.1, h2.2⟩
theorem one_mod {cs : List Value} {x : DataW H × List MemPlace} (h : DataW.trod enc Try.prog w base sp held fuel 25 cs = some x) : ∃ (y : Ma) (d : Md), Value.agg cs.toArray = dv y d ∧ Hq w y d := by
  have hS : Try.prog.underlying 25 = some (.struct (Try.prog.fieldsOf 25)) := by kernel_rfl
  have hC : Try.prog.cellsOf 25 = 4 := by kernel_rfl
  have c1 : Try.prog.cellsOf 22 = 1 := by kernel_rfl
  have c2 : Try.prog.cellsOf 23 = 1 := by kernel_rfl
  have c3 : Try.prog.cellsOf 3 = 1 := by kernel_rfl
  obtain ⟨xs, n, _, _, hlen, hxs, hg⟩ := DataW.trod_struct hS h
  rw [hC] at hlen
  match cs, hlen with
  | [v0, v1, v2, v3], _ =>
    have hn : xs.length = 4 := by rw [hxs]; kernel_rfl
    obtain ⟨f0, a0, o0, t0⟩ := modF_at (j := 0) rfl
    obtain ⟨f1, a1, o1, t1⟩ := modF_at (j := 1) rfl
    obtain ⟨f2, a2, o2, t2⟩ := modF_at (j := 2) rfl
    obtain ⟨f3, a3, o3, t3⟩ := modF_at (j := 3) rfl
    have g0 := hg 0 f0 a0
    have g1 := hg 1 f1 a1
    have g2 := hg 2 f2 a2
    have g3 := hg 3 f3 a3
    rw [o0, t0, c1, List.getElem?_eq_getElem (by omega)] at g0
    rw [o1, t1, c1, List.getElem?_eq_getElem (by omega)] at g1
    rw [o2, t2, c2, List.getElem?_eq_getElem (by omega)] at g2
    rw [o3, t3, c3, List.getElem?_eq_getElem (by omega)] at g3
    obtain ⟨G, gc, g, rfl, hG⟩ := one_vluL (v := v0) g0
    obtain ⟨P, pc, p, rfl, hP⟩ := one_vluL (v := v1) g1
    obtain ⟨i, e3, _, w3⟩ := DataW.trod_int Try.underlying3 g3
    simp at e3
    subst e3
    have b3 := bounds_i64 w3
    rcases open_mets (cs := [v2]) g2 with h0 | ⟨a, len, cap, Z, h0, hl, hr⟩
    · simp at h0
      subst h0
      exact ⟨⟨G, gc, P, pc, none, 0, []⟩, ⟨g, p, [], i⟩, rfl, hG, hP, Rm.none_ _, rfl, b3⟩
    · simp at h0
      subst h0 hl
      exact ⟨⟨G, gc, P, pc, some a, cap, Z⟩, ⟨g, p, Z.map ze, i⟩, by simp [dv], hG, hP, hr, rfl, b3⟩
/-- What the walk is told of a module that came in. -/
theorem row_mod {cs : Array Value} {d : DataW H} {p : List MemPlace} (h : DataW.Trod enc Try.prog w base sp held 25 (.agg cs) d p) : ∃ (y : Ma) (d : Md), Value.agg cs = dv y d ∧ Hq w y d := by
  obtain ⟨fuel, hf⟩ := h
  have := one_mod hf
  simpa [Value.cells] using this
end
end Go.Proofs.Ytimjnmkfbdijeaa
