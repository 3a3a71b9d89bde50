/-
  Faa, Fab, Fac: in one text.
-/
import Derived.Test.YtimjnmkfbdijeaaEy
import Derived.Laws.BitsAllLaws
namespace Go.Proofs.Ytimjnmkfbdijeaa
open Go.RowKit
set_option maxRecDepth 100000
set_option linter.unusedSimpArgs false
set_option linter.unusedVariables false

/-- The slice at A, of capacity c, reads as the numbers L of sixteen bits. -/
def Ru11 (w : World) (A : Option Addr) (c : Nat) (L : List Int) : Prop := (∀ x ∈ L, 0 ≤ x ∧ x < 65536) ∧ L.length ≤ c ∧ c ≤ maxLen ∧ ((A = none ∧ c = 0) ∨ ∃ ad : Addr, A = some ad ∧ ∀ i x, L[i]? = some x → w.cell? (ad.add i) = some (.int .u16 x))
section
variable {w w' : World} {A : Option Addr} {c : Nat} {L : List Int}
theorem Ru11.keep (h : Ru11 w A c L) (hb : Below w.heap.size w w') : Ru11 w' A c L := by
  refine ⟨h.1, h.2.1, h.2.2.1, ?_⟩
  rcases h.2.2.2 with hn | ⟨ad, ha, hc⟩
  · exact .inl hn
  · exact .inr ⟨ad, ha, fun i x hx => (hb.cell (cell_lt (hc i x hx))).trans (hc i x hx)⟩
theorem Ru11.at_ (h : Ru11 w A c L) {i : Nat} {x : Int} (hi : L[i]? = some x) : ∃ ad : Addr, A = some ad ∧ w.cell? (ad.add i) = some (.int .u16 x) := by
  rcases h.2.2.2 with ⟨_, hc⟩ | ⟨ad, ha, hc⟩
  · have := h.2.1
    have := (List.getElem?_eq_some_iff.1 hi).1
    omega
  · exact ⟨ad, ha, hc i x hi⟩
end
/-- Bit n of the k-th number. -/
def bt11 (R : List Int) (k n : Nat) : Bool := match R[k]? with
  | some x => (x / 2 ^ n) % 2 == 1
  | none => false
/-- The code that calls those of the first i. -/
def cd11 (b : Nat → Bool) (i : Nat) : List Ins := ((List.range i).filter b).map fun n : Nat => ((30 : Int), ((n : Int), (0 : Int)))
/-- The code that calls those. -/
def mc11 (b : Nat → Bool) : List Ins := cd11 b 16 ++ [(32, 0, 0)]
def mh11 : Mh := ⟨[], [], 1, false, 0, 0, 0⟩
/-- The law's module. -/
def md11 (many : Nat) (R : List Int) : Md := ⟨[], [], (List.range many).map fun k => (mh11, mc11 (bt11 R k)), -1⟩
/-- A method's block, its code alone not empty. -/
def Xb11 (w : World) (b : Nat) (A : Option Addr) (n c : Nat) : Prop := w.heap[b]? = some (.cells #[.slice none 0 0, .slice none 0 0, .int .u8 1, .bool false, .int .i64 0, .int .i64 0, .int .i64 0, .slice A n c] 52 (0, 0))
/-- A module's block, its methods alone not empty. -/
def Yb11 (w : World) (b : Nat) (A : Option Addr) (n c : Nat) (i : Int) : Prop := w.heap[b]? = some (.cells #[.slice none 0 0, .slice none 0 0, .slice A n c, .int .i64 i] 25 (0, 0))
section
variable {w w' : World} {b n c : Nat} {A : Option Addr} {i : Int}
theorem Xb11.lt (h : Xb11 w b A n c) : b < w.heap.size := (Array.getElem?_eq_some_iff.1 h).1
theorem Yb11.lt (h : Yb11 w b A n c i) : b < w.heap.size := (Array.getElem?_eq_some_iff.1 h).1
theorem Xb11.keep (h : Xb11 w b A n c) {B : Nat} (hb : Below B w w') (hB : b < B) : Xb11 w' b A n c := (hb.block b hB).trans h
theorem Yb11.keep (h : Yb11 w b A n c i) {B : Nat} (hb : Below B w w') (hB : b < B) : Yb11 w' b A n c i := (hb.block b hB).trans h
theorem Xb11.set (h : Xb11 w b A n c) (A' : Option Addr) (n' c' : Nat) : Xb11 (w.setCell ⟨b, 7, none⟩ (.slice A' n' c')) b A' n' c' := heap_setCell_same w b 7 _ _ (.slice A' n' c') h
theorem Yb11.set (h : Yb11 w b A n c i) (A' : Option Addr) (n' c' : Nat) : Yb11 (w.setCell ⟨b, 2, none⟩ (.slice A' n' c')) b A' n' c' i := heap_setCell_same w b 2 _ _ (.slice A' n' c') h
theorem Xb11.cells (h : Xb11 w b A n c) : w.cell? ⟨b, 0, none⟩ = some (.slice none 0 0) ∧ w.cell? ⟨b, 1, none⟩ = some (.slice none 0 0) ∧ w.cell? ⟨b, 2, none⟩ = some (.int .u8 1) ∧ w.cell? ⟨b, 3, none⟩ = some (.bool false) ∧ w.cell? ⟨b, 4, none⟩ = some (.int .i64 0) ∧ w.cell? ⟨b, 5, none⟩ = some (.int .i64 0) ∧ w.cell? ⟨b, 6, none⟩ = some (.int .i64 0) ∧ w.cell? ⟨b, 7, none⟩ = some (.slice A n c) ∧ ∀ j, w.frozen? ⟨b, j, none⟩ = false := by
  have h : w.heap[b]? = _ := h
  refine ⟨?_, ?_, ?_, ?_, ?_, ?_, ?_, ?_, fun j => ?_⟩ <;> simp [World.cell?, World.frozen?, h]
theorem Yb11.cells (h : Yb11 w b A n c i) : w.cell? ⟨b, 0, none⟩ = some (.slice none 0 0) ∧ w.cell? ⟨b, 1, none⟩ = some (.slice none 0 0) ∧ w.cell? ⟨b, 2, none⟩ = some (.slice A n c) ∧ w.cell? ⟨b, 3, none⟩ = some (.int .i64 i) ∧ ∀ j, w.frozen? ⟨b, j, none⟩ = false := by
  have h : w.heap[b]? = _ := h
  refine ⟨?_, ?_, ?_, ?_, fun j => ?_⟩ <;> simp [World.cell?, World.frozen?, h]
end
/-- A method's code: where it lies. -/
abbrev Cz := Option Addr × Nat × List Ins
def me11 (z : Cz) : Me := ⟨⟨none, 0, none, 0, z.1, z.2.2.length, z.2.1⟩, mh11, z.2.2⟩
def cv11 (z : Cz) : Value := .slice z.1 z.2.2.length z.2.1
theorem cd11_succ (b : Nat → Bool) (i : Nat) : cd11 b (i + 1) = cd11 b i ++ (if b i then [(30, ((i : Int), 0))] else []) := by
  rw [cd11, List.range_succ, List.filter_append, List.map_append, ← cd11]
  congr 1
  cases h : b i <;> simp [h]
theorem cd11_none {b : Nat → Bool} (h : ∀ n, b n = false) (i : Nat) : cd11 b i = [] := by
  rw [cd11, List.filter_eq_nil_iff.2 fun n _ => by rw [h]; simp]
  rfl
theorem cd11_len (b : Nat → Bool) (i : Nat) : (cd11 b i).length ≤ i := by
  rw [cd11, List.length_map]
  have := List.length_filter_le b (List.range i)
  rwa [List.length_range] at this
theorem and1_11 (a : Int) (h0 : 0 ≤ a) (h1 : a < 65536) : bits BinOp.and IntKind.u16 a 1 = a % 2 := by
  obtain ⟨b, rfl⟩ : ∃ b : Nat, a = b := ⟨a.toNat, by omega⟩
  have h := u16_and_nat b 1 (by omega) (by omega)
  rw [show ((1 : Nat) : Int) = 1 from rfl] at h
  rw [h, Nat.and_one_is_mod]
  omega
theorem bt11_at {R : List Int} {k n : Nat} {x : Int} (h : R[k]? = some x) (h0 : 0 ≤ x) (h1 : x < 65536) : (bits BinOp.and IntKind.u16 (x / 2 ^ n) 1 == 1) = bt11 R k n := by
  have hp : (0 : Int) < 2 ^ n := Int.pow_pos (by omega)
  rw [bt11, h, and1_11 _ (Int.ediv_nonneg h0 (by omega)) (Int.lt_of_le_of_lt (Int.ediv_le_self _ h0) h1)]
theorem bt11_none {R : List Int} {k n : Nat} (h : R[k]? = none) : bt11 R k n = false := by rw [bt11, h]
theorem ce8_cells11 (w : World) (z : Me) (cs : Array Value) (hcs : cs = (ce8 z).toArray) (t : Nat) : ∀ j u, (ce8 z)[j]? = some u → (w.alloc (.cells cs t)).cell? ((⟨w.heap.size, 0, none⟩ : Addr).add j) = some u := by
  subst hcs
  intro j u hj
  have e : (⟨w.heap.size, 0, none⟩ : Addr).add j = ⟨w.heap.size, j, none⟩ := by
    unfold Addr.add
    split
    · rename_i h0; simp [h0]
    · simp
  rw [e]
  simp [go_sem, hj]
/-- What lies in memory while methods are made: k of them. -/
structure Yk11 (b0 b1 : Nat) (R : List Int) (w0 w : World) (k : Nat) (A : Option Addr) (c : Nat) (Cs : List Cz) : Prop where
  y0 : Yb11 w b0 none 0 0 0
  y1 : Yb11 w b1 A k c (-1)
  row : w.ownsRow (b1 + 1) 52 8 (.slice A k c) k (cem (Cs.map me11))
  each : ∀ z ∈ Cs, w.ownsRow (b1 + 1) 57 3 (cv11 z) z.2.2.length (cei z.2.2)
  map : Cs.map (·.2.2) = (List.range k).map fun k => mc11 (bt11 R k)
  be : Below b0 w0 w
  sz : b1 + 1 ≤ w.heap.size
theorem Yk11.keep {b0 b1 k c : Nat} {R : List Int} {w0 w w' : World} {A : Option Addr} {Cs : List Cz} (h : Yk11 b0 b1 R w0 w k A c Cs) (h01 : b0 + 1 = b1) (hb : Below w.heap.size w w') : Yk11 b0 b1 R w0 w' k A c Cs :=
  ⟨h.y0.keep hb h.y0.lt, h.y1.keep hb h.y1.lt, own_below h.row hb (Nat.le_refl _), fun z hz => own_below (h.each z hz) hb (Nat.le_refl _), h.map, h.be.trans (hb.mono (by have := h.sz; omega)), Nat.le_trans h.sz hb.size⟩
theorem Yk11.put {b0 b1 k c : Nat} {R : List Int} {w0 w w1 w2 : World} {A : Option Addr} {Cs : List Cz} (h : Yk11 b0 b1 R w0 w k A c Cs) (h01 : b0 + 1 = b1) {z : Cz} (hz : w.ownsRow (b1 + 1) 57 3 (cv11 z) z.2.2.length (cei z.2.2)) (hzc : z.2.2 = mc11 (bt11 R k)) {ob : Obj} (hw1 : w1 = w.alloc ob) {A' : Option Addr} {c' : Nat}
    (ho : w2.ownsRow (b1 + 1) 52 8 (.slice A' (k + 1) c') (k + 1) (cem (Cs.map me11 ++ [me11 z]))) (hg : w1.grownBy w2 (Value.slice A k c).ownBlock) (hb : Below (b1 + 1) w1 w2) : Yk11 b0 b1 R w0 (w2.setCell ⟨b1, 2, none⟩ (.slice A' (k + 1) c')) (k + 1) A' c' (Cs ++ [z]) := by
  subst hw1
  have h' := h.keep h01 (new1 (a := ob))
  have hy0 : Yb11 w2 b0 none 0 0 0 := h'.y0.keep hb (by omega)
  have hy1 : Yb11 w2 b1 A k c (-1) := h'.y1.keep hb (by omega)
  have hlow : (⟨b1, 2, none⟩ : Addr).block < b1 + 1 := show b1 < b1 + 1 by omega
  refine ⟨(Below.heap_setCell w2 ⟨b1, 2, none⟩ _ b0 (show b0 ≠ b1 by omega)).trans hy0, hy1.set _ _ _, ?_, fun y hy => ?_, ?_, ?_, ?_⟩
  · rw [List.map_append]
    exact ownsRow_setCell_below ho hlow _
  · refine ownsRow_setCell_below (own_grown ?_ h'.row (by decide) hg) hlow _
    rcases List.mem_append.1 hy with hy | hy
    · exact h'.each y hy
    · rw [List.mem_singleton.1 hy]
      exact hz.alloc ob
  · rw [List.map_append, h.map, List.range_succ, List.map_append]
    simp [hzc]
  · exact (h'.be.trans (hb.mono (by omega))).setCell (p := ⟨b1, 2, none⟩) (show b0 ≤ b1 by omega) _
  · have h1 := hb.size
    have h2 := h'.sz
    simp
    omega
theorem mc11_ok (b : Nat → Bool) : ∀ x ∈ mc11 b, InOk x := by
  intro x hx
  rcases List.mem_append.1 hx with hx | hx
  · rw [cd11, List.mem_map] at hx
    obtain ⟨n, hn, rfl⟩ := hx
    have := List.mem_range.1 (List.mem_filter.1 hn).1
    unfold InOk
    dsimp only
    omega
  · rw [List.mem_singleton.1 hx]
    unfold InOk
    dsimp only
    omega
theorem hq11_of {b many c : Nat} {R : List Int} {w : World} {A : Option Addr} {Cs : List Cz} (hrow : w.ownsRow b 52 8 (.slice A many c) many (cem (Cs.map me11))) (heach : ∀ z ∈ Cs, w.ownsRow b 57 3 (cv11 z) z.2.2.length (cei z.2.2)) (hmap : Cs.map (·.2.2) = (List.range many).map fun k => mc11 (bt11 R k)) : Hq w ⟨none, 0, none, 0, A, c, Cs.map me11⟩ (md11 many R) := by
  have hms : ∀ z ∈ Cs, ∃ k, z.2.2 = mc11 (bt11 R k) := fun z hz => by
    have h1 : z.2.2 ∈ Cs.map (·.2.2) := List.mem_map_of_mem hz
    rw [hmap, List.mem_map] at h1
    obtain ⟨k, _, e⟩ := h1
    exact ⟨k, e.symm⟩
  refine ⟨Rv.none_ w, Rv.none_ w, (Rm.of_own hrow fun z hz => ?_).1, ?_, by unfold md11; dsimp only; decide⟩
  · obtain ⟨y, hy, rfl⟩ := List.mem_map.1 hz
    obtain ⟨k, hk⟩ := hms y hy
    refine ⟨⟨Rd.none_ w, Rd.none_ w, by unfold Mh.nums me11 mh11; dsimp only; decide⟩, (Ri.of_own (heach y hy) fun x hx => ?_).1, rfl⟩
    rw [hk] at hx
    exact mc11_ok _ x hx
  · have e1 : (Cs.map me11).map ze = (Cs.map (·.2.2)).map fun k => (mh11, k) := by
      rw [List.map_map, List.map_map]
      rfl
    dsimp only
    rw [e1, hmap, List.map_map]
    rfl
end Go.Proofs.Ytimjnmkfbdijeaa
namespace Go.Proofs.Ytimjnmkfbdijeaa
open Go.RowKit
set_option maxRecDepth 100000
set_option linter.unusedSimpArgs false
set_option linter.unusedVariables false

theorem md11_len (many : Nat) (R : List Int) : (md11 many R).s.length = many := by simp [md11]
theorem md11_bl (many : Nat) (R : List Int) : ∀ z ∈ (md11 many R).s, z.2.length ≤ 1000 := by
  intro z hz
  rw [md11] at hz
  obtain ⟨k, _, rfl⟩ := List.mem_map.1 hz
  dsimp only
  rw [mc11, List.length_append]
  have := cd11_len (bt11 R k) 16
  simp
  omega
end Go.Proofs.Ytimjnmkfbdijeaa
namespace Go.Proofs.Ytimjnmkfbdijeaa
open Go.RowKit
set_option maxRecDepth 100000
set_option linter.unusedSimpArgs false
set_option linter.unusedVariables false

theorem dp11_congr {e e' : Nat → Nat → Bool} {n : Nat} (h : ∀ k j, k < n → j < n → e k j = e' k j) : ∀ f k, k < n → dp11 e n f k = dp11 e' n f k
  | 0, k, hk => rfl
  | f + 1, k, hk => by
    have hf : (List.range n).filter (e k) = (List.range n).filter (e' k) := List.filter_congr fun j hj => h k j hk (List.mem_range.1 hj)
    rw [dp11, dp11, hf]
    refine foldl_congr11 fun j hj => dp11_congr h f j (List.mem_range.1 (List.mem_filter.1 hj).1)
/-- Code that calls those. -/
def bc11 (l : List Nat) : List Ins := l.map fun j : Nat => ((30 : Int), ((j : Int), (0 : Int)))
/-- Whom the method k calls. -/
def ck11 (d : Md) (k : Nat) : List Nat := (List.range d.s.length).filter (e11 d k)
def mh0_11 : Mh := ⟨[], [], 0, false, 0, 0, 0⟩
def bare11 (d : Md) : Md := ⟨[], [], (List.range d.s.length).map fun k => (mh0_11, bc11 (ck11 d k)), -1⟩
theorem bare11_len (d : Md) : (bare11 d).s.length = d.s.length := by simp [bare11]
theorem ck11_len (d : Md) (k : Nat) : (ck11 d k).length ≤ d.s.length := by
  have := List.length_filter_le (e11 d k) (List.range d.s.length)
  rwa [List.length_range] at this
theorem ck11_mem {d : Md} {k j : Nat} : j ∈ ck11 d k ↔ j < d.s.length ∧ e11 d k j = true := by rw [ck11, List.mem_filter, List.mem_range]
theorem bare11_co {d : Md} {k : Nat} (hk : k < d.s.length) : co11 (bare11 d) k = bc11 (ck11 d k) := by
  rw [co11, bare11]
  simp [List.getElem?_map, List.getElem?_range, hk]
theorem bare11_e {d : Md} {k j : Nat} (hk : k < d.s.length) (hj : j < d.s.length) : e11 (bare11 d) k j = e11 d k j := by
  rw [e11, bare11_co hk, cl11, bc11, List.any_map, Bool.eq_iff_iff, List.any_eq_true]
  constructor
  · rintro ⟨i, hi, h⟩
    have h : i = j := by
      simp at h
      omega
    subst h
    exact (ck11_mem.1 hi).2
  · intro h
    exact ⟨j, ck11_mem.2 ⟨hj, h⟩, by simp⟩
theorem bare11_ba (d : Md) : ba11 (bare11 d) = false := by
  refine ba11_of fun k hk => ?_
  rw [bare11_len] at hk ⊢
  rw [bare11_co hk, bd11, List.any_eq_false]
  intro x hx
  obtain ⟨j, hj, rfl⟩ := List.mem_map.1 hx
  have := (ck11_mem.1 hj).1
  simp
  omega
theorem bare11_de {d : Md} (h : (ro11 d).2 = 0) : de11 (bare11 d) = de11 d := by
  obtain ⟨r, hr, -⟩ := ro11_rk h
  have hr' : Rk11 (e11 (bare11 d)) (bare11 d).s.length r := by
    rw [bare11_len]
    intro k j hk hj he
    rw [bare11_e hk hj] at he
    exact hr k j hk hj he
  obtain ⟨o, ho⟩ := or11_rk hr'
  have h2 : (ro11 (bare11 d)).2 = 0 := by rw [ro11, if_neg (by rw [bare11_ba]; decide), ho]
  rw [de11, de11, if_pos h, if_pos h2, bare11_len]
  congr 1
  refine List.map_congr_left fun k hk => ?_
  rw [dp11_congr (fun k j hk hj => bare11_e hk hj) _ _ (List.mem_range.1 hk)]
theorem bare11_bl {d : Md} (h : d.s.length ≤ 1000) : ∀ z ∈ (bare11 d).s, z.2.length ≤ 1000 := by
  intro z hz
  rw [bare11] at hz
  obtain ⟨k, _, rfl⟩ := List.mem_map.1 hz
  dsimp only
  rw [bc11, List.length_map]
  exact Nat.le_trans (ck11_len d k) h
/-- What Deep tells of a module without a round. -/
theorem de11_zero {d : Md} (h : (ro11 d).2 = 0) : ∃ dp : Nat → Nat, de11 d = (rw11 d.s.length fun t => (dp t : Int), 0) ∧ (∀ k, k < d.s.length → dp k = mx11 dp (ck11 d k) + 1) ∧ ∀ k, k < d.s.length → dp k ≤ d.s.length := by
  obtain ⟨r, hr, hrb⟩ := ro11_rk h
  refine ⟨dp11 (e11 d) d.s.length d.s.length, by rw [de11, if_pos h]; rfl, fun k hk => ?_, fun k hk => ?_⟩
  · rw [dp11_step hr hk hrb, mx11]
    exact foldl_mx11 _ _ 0
  · have h1 := dp11_le hr (f := d.s.length) hk
    have h2 := hrb k hk
    omega
theorem de11_two (d : Md) : (de11 d).2 = (ro11 d).2 := by
  rw [de11]
  split
  · rename_i h; exact h.symm
  · rfl
theorem de11_no {d : Md} (h : (ro11 d).2 ≠ 0) : (de11 d).1 = [] := by rw [de11, if_neg h]
theorem wh11_ck {d : Md} (h : (ro11 d).2 = 0) {k : Nat} (hk : k < d.s.length) : wh11 d k = (ns11 (ck11 d k), 0) := wh11_ok (ro11_ok h).1 hk
theorem qG_bs {d : Md} (h : qG d = false) : d.s.length ≤ 40 ∧ ∀ z ∈ d.s, z.2.length ≤ 1000 := by
  simp only [qG, Bool.or_eq_false_iff, decide_eq_false_iff_not, List.any_eq_false] at h
  refine ⟨by omega, fun z hz => ?_⟩
  have hh := h.2.2.2 _ hz
  simp only [qgE, gB, Bool.or_eq_true, decide_eq_true_eq, not_or] at hh
  omega
theorem rw11_get {n t : Nat} {f : Nat → Int} (ht : t < n) : (rw11 n f)[t]? = some (f t) := by
  rw [rw11, List.getElem?_map, List.getElem?_range ht]
  rfl
/-- A method's block, its code alone not empty. -/
def Xc11 (w : World) (b : Nat) (A : Option Addr) (n c : Nat) : Prop := w.heap[b]? = some (.cells #[.slice none 0 0, .slice none 0 0, .int .u8 0, .bool false, .int .i64 0, .int .i64 0, .int .i64 0, .slice A n c] 52 (0, 0))
section
variable {w w' : World} {b n c : Nat} {A : Option Addr}
theorem Xc11.lt (h : Xc11 w b A n c) : b < w.heap.size := (Array.getElem?_eq_some_iff.1 h).1
theorem Xc11.keep (h : Xc11 w b A n c) {B : Nat} (hb : Below B w w') (hB : b < B) : Xc11 w' b A n c := (hb.block b hB).trans h
theorem Xc11.set (h : Xc11 w b A n c) (A' : Option Addr) (n' c' : Nat) : Xc11 (w.setCell ⟨b, 7, none⟩ (.slice A' n' c')) b A' n' c' := heap_setCell_same w b 7 _ _ (.slice A' n' c') h
theorem Xc11.cells (h : Xc11 w b A n c) : w.cell? ⟨b, 0, none⟩ = some (.slice none 0 0) ∧ w.cell? ⟨b, 1, none⟩ = some (.slice none 0 0) ∧ w.cell? ⟨b, 2, none⟩ = some (.int .u8 0) ∧ w.cell? ⟨b, 3, none⟩ = some (.bool false) ∧ w.cell? ⟨b, 4, none⟩ = some (.int .i64 0) ∧ w.cell? ⟨b, 5, none⟩ = some (.int .i64 0) ∧ w.cell? ⟨b, 6, none⟩ = some (.int .i64 0) ∧ w.cell? ⟨b, 7, none⟩ = some (.slice A n c) ∧ ∀ j, w.frozen? ⟨b, j, none⟩ = false := by
  have h : w.heap[b]? = _ := h
  refine ⟨?_, ?_, ?_, ?_, ?_, ?_, ?_, ?_, fun j => ?_⟩ <;> simp [World.cell?, World.frozen?, h]
end
def mf11 (z : Cz) : Me := ⟨⟨none, 0, none, 0, z.1, z.2.2.length, z.2.1⟩, mh0_11, z.2.2⟩
/-- What lies in memory while methods are made: k of them, codes by F. -/
structure Yd11 (b1 : Nat) (F : Nat → List Ins) (w0 w : World) (k : Nat) (A : Option Addr) (c : Nat) (Cs : List Cz) : Prop where
  y1 : Yb11 w b1 A k c (-1)
  row : w.ownsRow (b1 + 1) 52 8 (.slice A k c) k (cem (Cs.map mf11))
  each : ∀ z ∈ Cs, w.ownsRow (b1 + 1) 57 3 (cv11 z) z.2.2.length (cei z.2.2)
  map : Cs.map (·.2.2) = (List.range k).map F
  be : Below b1 w0 w
  sz : b1 + 1 ≤ w.heap.size
section
variable {b1 k c : Nat} {F : Nat → List Ins} {w0 w w' w1 w2 : World} {A : Option Addr} {Cs : List Cz}
theorem Yd11.keep (h : Yd11 b1 F w0 w k A c Cs) (hb : Below w.heap.size w w') : Yd11 b1 F w0 w' k A c Cs :=
  ⟨h.y1.keep hb h.y1.lt, own_below h.row hb (Nat.le_refl _), fun z hz => own_below (h.each z hz) hb (Nat.le_refl _), h.map, h.be.trans (hb.mono (by have := h.sz; omega)), Nat.le_trans h.sz hb.size⟩
theorem Yd11.put (h : Yd11 b1 F w0 w k A c Cs) {z : Cz} (hz : w.ownsRow (b1 + 1) 57 3 (cv11 z) z.2.2.length (cei z.2.2)) (hzc : z.2.2 = F k) {ob : Obj} (hw1 : w1 = w.alloc ob) {A' : Option Addr} {c' : Nat}
    (ho : w2.ownsRow (b1 + 1) 52 8 (.slice A' (k + 1) c') (k + 1) (cem (Cs.map mf11 ++ [mf11 z]))) (hg : w1.grownBy w2 (Value.slice A k c).ownBlock) (hb : Below (b1 + 1) w1 w2) : Yd11 b1 F w0 (w2.setCell ⟨b1, 2, none⟩ (.slice A' (k + 1) c')) (k + 1) A' c' (Cs ++ [z]) := by
  subst hw1
  have h' := h.keep (new1 (a := ob))
  have hy1 : Yb11 w2 b1 A k c (-1) := h'.y1.keep hb (by omega)
  have hlow : (⟨b1, 2, none⟩ : Addr).block < b1 + 1 := show b1 < b1 + 1 by omega
  refine ⟨hy1.set _ _ _, ?_, fun y hy => ?_, ?_, ?_, ?_⟩
  · rw [List.map_append]
    exact ownsRow_setCell_below ho hlow _
  · refine ownsRow_setCell_below (own_grown ?_ h'.row (by decide) hg) hlow _
    rcases List.mem_append.1 hy with hy | hy
    · exact h'.each y hy
    · rw [List.mem_singleton.1 hy]
      exact hz.alloc ob
  · rw [List.map_append, h.map, List.range_succ, List.map_append]
    simp [hzc]
  · exact (h'.be.trans (hb.mono (by omega))).setCell (p := ⟨b1, 2, none⟩) (Nat.le_refl _) _
  · have h1 := hb.size
    have h2 := h'.sz
    simp
    omega
end
theorem bc11_ok {l : List Nat} (h : ∀ j ∈ l, j < 1000) : ∀ x ∈ bc11 l, InOk x := by
  intro x hx
  obtain ⟨n, hn, rfl⟩ := List.mem_map.1 hx
  have := h n hn
  unfold InOk
  dsimp only
  omega
theorem hq11_bare {d : Md} {b sn c : Nat} {w : World} {A : Option Addr} {Cs : List Cz} (hn : d.s.length = sn) (hs : sn ≤ 1000) (hrow : w.ownsRow b 52 8 (.slice A sn c) sn (cem (Cs.map mf11))) (heach : ∀ z ∈ Cs, w.ownsRow b 57 3 (cv11 z) z.2.2.length (cei z.2.2)) (hmap : Cs.map (·.2.2) = (List.range sn).map fun k => bc11 (ck11 d k)) : Hq w ⟨none, 0, none, 0, A, c, Cs.map mf11⟩ (bare11 d) := by
  have hms : ∀ z ∈ Cs, ∃ k, z.2.2 = bc11 (ck11 d k) := fun z hz => by
    have h1 : z.2.2 ∈ Cs.map (·.2.2) := List.mem_map_of_mem hz
    rw [hmap, List.mem_map] at h1
    obtain ⟨k, _, e⟩ := h1
    exact ⟨k, e.symm⟩
  refine ⟨Rv.none_ w, Rv.none_ w, (Rm.of_own hrow fun z hz => ?_).1, ?_, by unfold bare11; dsimp only; decide⟩
  · obtain ⟨y, hy, rfl⟩ := List.mem_map.1 hz
    obtain ⟨k, hk⟩ := hms y hy
    refine ⟨⟨Rd.none_ w, Rd.none_ w, by unfold Mh.nums mf11 mh0_11; dsimp only; decide⟩, (Ri.of_own (heach y hy) fun x hx => ?_).1, rfl⟩
    rw [hk] at hx
    exact bc11_ok (fun j hj => by have := (ck11_mem.1 hj).1; omega) x hx
  · have e1 : (Cs.map mf11).map ze = (Cs.map (·.2.2)).map fun k => (mh0_11, k) := by
      rw [List.map_map, List.map_map]
      rfl
    dsimp only
    rw [e1, hmap, List.map_map, bare11, hn]
    rfl
end Go.Proofs.Ytimjnmkfbdijeaa
