/-
  Layer 15's arguments: acts, by value and in a slice; words in a slice.
-/
import Derived.Test.YtibiocjdkndnhaaYa
import Derived.ProofKit
import Derived.OpenShut
import Derived.ChangeSame
import Derived.Deep.Slices
import Derived.Deep.Fields
namespace Go.Proofs.Ytibiocjdkndnhaa
open Go.ChangeShapes Go.WideShapes Go.ChangeAt Go.RowKit Go.Deep
set_option maxRecDepth 100000
set_option linter.unusedSimpArgs false
set_option linter.unusedVariables false

/-- An act: kind, reference, index, value. -/
abbrev A15 := Int × Int × Int × Int
def Ok15 (y : A15) : Prop := (0 ≤ y.1 ∧ y.1 < 256) ∧ (-9223372036854775808 ≤ y.2.1 ∧ y.2.1 ≤ 9223372036854775807) ∧ (-9223372036854775808 ≤ y.2.2.1 ∧ y.2.2.1 ≤ 9223372036854775807) ∧ (-9223372036854775808 ≤ y.2.2.2 ∧ y.2.2.2 ≤ 9223372036854775807)
/-- Four cells at ad. -/
def At15 (w : World) (ad : Addr) (y : A15) : Prop := w.cell? ad = some (.int .u8 y.1) ∧ w.cell? ⟨ad.block, ad.off + 1, none⟩ = some (.int .i64 y.2.1) ∧ w.cell? ⟨ad.block, ad.off + 2, none⟩ = some (.int .i64 y.2.2.1) ∧ w.cell? ⟨ad.block, ad.off + 3, none⟩ = some (.int .i64 y.2.2.2)
/-- The slice at A, of capacity c, reads as the acts L. -/
def Ra15 (w : World) (A : Option Addr) (c : Nat) (L : List A15) : Prop := (∀ y ∈ L, Ok15 y) ∧ L.length ≤ c ∧ c ≤ maxLen ∧ ((A = none ∧ c = 0) ∨ ∃ ad : Addr, A = some ad ∧ ∀ i y, L[i]? = some y → At15 w (ad.add (i * 4)) y)
theorem At15.keep {w w' : World} {ad : Addr} {y : A15} (h : At15 w ad y) (hb : Below w.heap.size w w') : At15 w' ad y := by
  obtain ⟨h0, h1, h2, h3⟩ := h
  exact ⟨(hb.cell (cell_lt h0)).trans h0, (hb.cell (cell_lt h1)).trans h1, (hb.cell (cell_lt h2)).trans h2, (hb.cell (cell_lt h3)).trans h3⟩
theorem Ra15.keep {w w' : World} {A : Option Addr} {c : Nat} {L : List A15} (h : Ra15 w A c L) (hb : Below w.heap.size w w') : Ra15 w' A c L := by
  refine ⟨h.1, h.2.1, h.2.2.1, ?_⟩
  rcases h.2.2.2 with hn | ⟨ad, ha, hc⟩
  · exact .inl hn
  · exact .inr ⟨ad, ha, fun i y hy => (hc i y hy).keep hb⟩
theorem Ra15.at_ {w : World} {A : Option Addr} {c : Nat} {L : List A15} (h : Ra15 w A c L) {i : Nat} {y : A15} (hi : L[i]? = some y) : ∃ ad : Addr, A = some ad ∧ At15 w (ad.add (i * 4)) y ∧ Ok15 y := by
  have h1 := (List.getElem?_eq_some_iff.1 hi).1
  rcases h.2.2.2 with ⟨_, hc⟩ | ⟨ad, ha, hc⟩
  · have := h.2.1; omega
  · exact ⟨ad, ha, hc i y hi, h.1 y (List.mem_of_getElem? hi)⟩
theorem vad15 (a : Addr) (i j : Nat) (hj : 0 < j) : a.add (i * 4 + j) = ⟨(a.add (i * 4)).block, (a.add (i * 4)).off + j, none⟩ := by
  unfold Addr.add
  rw [if_neg (by omega)]
  split
  · rename_i h; simp; try omega
  · simp; try omega
/-- The four fields of an act: their offsets and types. -/
theorem actF : ((Try.prog.fieldsOf 31).map fun f => (f.offset, f.type)) = #[(0, 5), (1, 2), (2, 2), (3, 2)] := by kernel_rfl
theorem actF_at {j : Nat} {o t : Nat} (h : (#[(0, 5), (1, 2), (2, 2), (3, 2)] : Array (Nat × TypeId))[j]? = some (o, t)) : ∃ f, (Try.prog.fieldsOf 31)[j]? = some f ∧ f.offset = o ∧ f.type = t := by
  rw [← actF, Array.getElem?_map, Option.map_eq_some_iff] at h
  obtain ⟨f, h1, h2⟩ := h
  simp only [Prod.mk.injEq] at h2
  exact ⟨f, h1, h2.1, h2.2⟩
/-- One act's cells, out of their reading. -/
theorem one_act {H : Type} {enc : TypeId × Value → H} {w : World} {base : Nat} {sp : Nat → Bool} {held : Bool} {fuel : Nat} {cs : List Value} {x : DataW H × List MemPlace} (h : DataW.trod enc Try.prog w base sp held fuel 31 cs = some x) :
    ∃ y : A15, Ok15 y ∧ cs = [.int .u8 y.1, .int .i64 y.2.1, .int .i64 y.2.2.1, .int .i64 y.2.2.2] := by
  have hS : Try.prog.underlying 31 = some (.struct (Try.prog.fieldsOf 31)) := by kernel_rfl
  have hC : Try.prog.cellsOf 31 = 4 := by kernel_rfl
  have c1 : Try.prog.cellsOf 5 = 1 := by kernel_rfl
  have c2 : Try.prog.cellsOf 2 = 1 := by kernel_rfl
  obtain ⟨xs, n, _, _, hlen, hxs, hg⟩ := DataW.trod_struct hS h
  rw [hC] at hlen
  match cs, hlen with
  | [v0, v1, v2, v3], _ =>
    have hn : xs.length = 4 := by rw [hxs]; kernel_rfl
    obtain ⟨f0, a0, o0, t0⟩ := actF_at (j := 0) rfl
    obtain ⟨f1, a1, o1, t1⟩ := actF_at (j := 1) rfl
    obtain ⟨f2, a2, o2, t2⟩ := actF_at (j := 2) rfl
    obtain ⟨f3, a3, o3, t3⟩ := actF_at (j := 3) rfl
    have g0 := hg 0 f0 a0
    have g1 := hg 1 f1 a1
    have g2 := hg 2 f2 a2
    have g3 := hg 3 f3 a3
    rw [o0, t0, c1, List.getElem?_eq_getElem (by omega)] at g0
    rw [o1, t1, c2, List.getElem?_eq_getElem (by omega)] at g1
    rw [o2, t2, c2, List.getElem?_eq_getElem (by omega)] at g2
    rw [o3, t3, c2, List.getElem?_eq_getElem (by omega)] at g3
    obtain ⟨k, e0, _, w0⟩ := DataW.trod_int Try.underlying5 g0
    obtain ⟨a, e1, _, w1⟩ := DataW.trod_int Try.underlying2 g1
    obtain ⟨b, e2, _, w2⟩ := DataW.trod_int Try.underlying2 g2
    obtain ⟨c, e3, _, w3⟩ := DataW.trod_int Try.underlying2 g3
    simp at e0 e1 e2 e3
    subst e0 e1 e2 e3
    have b0 := bounds_u8 w0
    have b1 := bounds_i64 w1
    have b2 := bounds_i64 w2
    have b3 := bounds_i64 w3
    exact ⟨(k, a, b, c), by unfold Ok15; simp only; omega, rfl⟩
theorem open_act {H : Type} {enc : TypeId × Value → H} {w : World} {base : Nat} {sp : Nat → Bool} {held : Bool} {fuel : Nat} {cs : List Value} {x : DataW H × List MemPlace} (h : DataW.trod enc Try.prog w base sp held fuel 22 cs = some x) :
    cs = [.slice none 0 0] ∨ ∃ (a : Addr) (len cap : Nat) (L : List A15), cs = [.slice (some a) len cap] ∧ L.length = len ∧ Ra15 w (some a) cap L := by
  have hC : Try.prog.cellsOf 31 = 4 := by kernel_rfl
  rcases open_slice Try.underlying22 h with ⟨h0, _⟩ | ⟨a, len, cap, m, n, D, Pl, hcs, hb, hl, hm, hmm, hx, hi⟩
  · exact .inl h0
  · rw [hC] at hi
    have hle : len ≤ m := by rw [hmm]; split <;> omega
    have hy : ∀ i, i < len → ∃ y : A15, Ok15 y ∧ At15 w (a.add (i * 4)) y := by
      intro i hil
      obtain ⟨cs', hc, ht⟩ := hi i (by omega)
      obtain ⟨y, hok, rfl⟩ := one_act ht
      obtain ⟨_, _, hat⟩ := World.cells?_some hc
      have q0 := hat 0 (by omega)
      have q1 := hat 1 (by omega)
      have q2 := hat 2 (by omega)
      have q3 := hat 3 (by omega)
      rw [add_add] at q0 q1 q2 q3
      rw [vad15 _ _ _ (by omega)] at q1 q2 q3
      exact ⟨y, hok, by simpa using q0, by simpa using q1, by simpa using q2, by simpa using q3⟩
    refine .inr ⟨a, len, cap, (List.range len).map fun i => if hil : i < len then (hy i hil).choose else (0, 0, 0, 0), hcs, by simp, ?_, by simp; omega, hm, .inr ⟨a, rfl, ?_⟩⟩
    · intro y hmem
      obtain ⟨i, hir, rfl⟩ := List.mem_map.1 hmem
      have hil := List.mem_range.1 hir
      rw [dif_pos hil]
      exact (hy i hil).choose_spec.1
    · intro i y hiy
      have hil : i < len := by simpa using (List.getElem?_eq_some_iff.1 hiy).1
      rw [List.getElem?_map, List.getElem?_range hil, Option.map_some, dif_pos hil] at hiy
      obtain rfl := Option.some.inj hiy
      exact (hy i hil).choose_spec.2
/-- What the walk is told of a slice of acts that came in. -/
theorem row_acts {H : Type} {enc : TypeId × Value → H} {w : World} {base : Nat} {sp : Nat → Bool} {held : Bool} {A : Option Addr} {n c : Nat} {d : DataW H} {p : List MemPlace} (h : DataW.Trod enc Try.prog w base sp held 22 (.slice A n c) d p) : ∃ L : List A15, L.length = n ∧ Ra15 w A c L := by
  obtain ⟨fuel, hf⟩ := h
  rcases open_act hf with h0 | ⟨a, len, cap, L, h0, hl, hr⟩
  · simp [Value.cells] at h0
    obtain ⟨rfl, rfl, rfl⟩ := h0
    exact ⟨[], rfl, fun y hy => (by cases hy), Nat.le_refl _, Nat.zero_le _, .inl ⟨rfl, rfl⟩⟩
  · simp [Value.cells] at h0
    obtain ⟨rfl, rfl, rfl⟩ := h0
    exact ⟨L, hl, hr⟩
/-- The value of an act. -/
def ac15 (y : A15) : Array Value := #[.int .u8 y.1, .int .i64 y.2.1, .int .i64 y.2.2.1, .int .i64 y.2.2.2]
/-- An act that came in by value. -/
theorem row_act {H : Type} {enc : TypeId × Value → H} {w : World} {base : Nat} {sp : Nat → Bool} {held : Bool} {cs : Array Value} {d : DataW H} {p : List MemPlace} (h : DataW.Trod enc Try.prog w base sp held 31 (.agg cs) d p) : ∃ y : A15, Value.agg cs = .agg (ac15 y) ∧ Ok15 y := by
  obtain ⟨fuel, hf⟩ := h
  obtain ⟨y, hok, hcs⟩ := one_act hf
  refine ⟨y, ?_, hok⟩
  have hcs : cs.toList = [.int .u8 y.1, .int .i64 y.2.1, .int .i64 y.2.2.1, .int .i64 y.2.2.2] := by simpa [Value.cells] using hcs
  congr 1
  exact Array.ext' hcs
/-- A slice of words that came in reads as the list W. -/
def Rn15 (w : World) (A : Option Addr) (c : Nat) (L : List Int) : Prop := (∀ y ∈ L, -9223372036854775808 ≤ y ∧ y ≤ 9223372036854775807) ∧ L.length ≤ c ∧ c ≤ maxLen ∧ ((A = none ∧ c = 0) ∨ ∃ ad : Addr, A = some ad ∧ ∀ i y, L[i]? = some y → w.cell? (ad.add i) = some (.int .i64 y))
theorem rn15_row {w : World} {a : Option Addr} {len cap : Nat} {zs : List Int}
    (h : (a = none ∧ len = 0 ∧ cap = 0 ∧ zs = []) ∨ ∃ x : Addr, a = some x ∧ len ≤ cap ∧ cap ≤ maxLen ∧ zs.length = cap ∧ (∀ i, i < zs.length → w.cell? (x.add i) = some (.int .i64 (zs.getD i 0))) ∧ ∀ n ∈ zs, (Lit.int .i64 n).wf = true) :
    ∃ l : List Int, l.length = len ∧ Rn15 w a cap l := by
  rcases h with ⟨rfl, rfl, rfl, rfl⟩ | ⟨x, rfl, h1, h2, h3, h4, h5⟩
  · exact ⟨[], rfl, fun x hx => (by cases hx), Nat.le_refl _, Nat.zero_le _, .inl ⟨rfl, rfl⟩⟩
  · refine ⟨zs.take len, by simp; omega, fun n hn => bounds_i64 (h5 n (List.mem_of_mem_take hn)), by simp; omega, h2, .inr ⟨x, rfl, fun i y hy => ?_⟩⟩
    rw [List.getElem?_take] at hy
    split at hy
    · have hlt := (List.getElem?_eq_some_iff.1 hy).1
      rw [h4 i hlt, List.getD_eq_getElem?_getD, hy]
      rfl
    · cases hy
theorem Rn15.keep {w w' : World} {A : Option Addr} {c : Nat} {L : List Int} (h : Rn15 w A c L) (hb : Below w.heap.size w w') : Rn15 w' A c L := by
  refine ⟨h.1, h.2.1, h.2.2.1, ?_⟩
  rcases h.2.2.2 with hn | ⟨ad, ha, hc⟩
  · exact .inl hn
  · exact .inr ⟨ad, ha, fun i y hy => (hb.cell (cell_lt (hc i y hy))).trans (hc i y hy)⟩
theorem Rn15.at_ {w : World} {A : Option Addr} {c : Nat} {L : List Int} (h : Rn15 w A c L) {i : Nat} {y : Int} (hi : L[i]? = some y) : ∃ ad : Addr, A = some ad ∧ w.cell? (ad.add i) = some (.int .i64 y) ∧ -9223372036854775808 ≤ y ∧ y ≤ 9223372036854775807 := by
  have h1 := (List.getElem?_eq_some_iff.1 hi).1
  rcases h.2.2.2 with ⟨_, hc⟩ | ⟨ad, ha, hc⟩
  · have := h.2.1; omega
  · exact ⟨ad, ha, hc i y hi, h.1 y (List.mem_of_getElem? hi)⟩
end Go.Proofs.Ytibiocjdkndnhaa
