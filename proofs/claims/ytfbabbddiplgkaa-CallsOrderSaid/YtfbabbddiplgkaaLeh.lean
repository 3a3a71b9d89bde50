/-
  Faa, Fab, Fac: in one text.
-/
import Derived.Test.YtfbabbddiplgkaaEy
import Derived.Laws.BitsAllLaws
namespace Go.Proofs.Ytfbabbddiplgkaa
open Go.RowKit
set_option maxRecDepth 100000
set_option linter.unusedSimpArgs false
set_option linter.unusedVariables false

/-- The slice at A, of capacity c, reads as the numbers L of sixteen bits. -/
def Ru11 (w : World) (A : Option Addr) (c : Nat) (L : List Int) : Prop := (∀ x ∈ L, 0 ≤ x ∧ x < 65536) ∧ L.length ≤ c ∧ c ≤ maxLen ∧ ((A = none ∧ c = 0) ∨ ∃ ad : Addr, A = some ad ∧ ∀ i x, L[i]? = some x → w.cell? (ad.add i) = some (.int .u16 x))
section
variable {w w' : World} {A : Option Addr} {c : Nat} {L : List Int}
theorem Ru11.keep (h : Ru11 w A c L) (hb : Below w.heap.size w w') : Ru11 w' A c L := by
  refine ⟨h.1, h.2.1, h.2.2.1, ?_⟩
  rcases h.2.2.2 with hn | ⟨ad, ha, hc⟩
  · exact .inl hn
  · exact .inr ⟨ad, ha, fun i x hx => (hb.cell (cell_lt (hc i x hx))).trans (hc i x hx)⟩
theorem Ru11.at_ (h : Ru11 w A c L) {i : Nat} {x : Int} (hi : L[i]? = some x) : ∃ ad : Addr, A = some ad ∧ w.cell? (ad.add i) = some (.int .u16 x) := by
  rcases h.2.2.2 with ⟨_, hc⟩ | ⟨ad, ha, hc⟩
  · have := h.2.1
    have := (List.getElem?_eq_some_iff.1 hi).1
    omega
  · exact ⟨ad, ha, hc i x hi⟩
end
/-- Bit n of the k-th number. -/
def bt11 (R : List Int) (k n : Nat) : Bool := match R[k]? with
  | some x => (x / 2 ^ n) % 2 == 1
  | none => false
/-- The code that calls those of the first i. -/
def cd11 (b : Nat → Bool) (i : Nat) : List Ins := ((List.range i).filter b).map fun n : Nat => ((30 : Int), ((n : Int), (0 : Int)))
/-- The code that calls those. -/
def mc11 (b : Nat → Bool) : List Ins := cd11 b 16 ++ [(32, 0, 0)]
def mh11 : Mh := ⟨[], [], 1, false, 0, 0, 0⟩
/-- The law's module. -/
def md11 (many : Nat) (R : List Int) : Md := ⟨[], [], (List.range many).map fun k => (mh11, mc11 (bt11 R k)), -1⟩
/-- A method's block, its code alone not empty. -/
def Xb11 (w : World) (b : Nat) (A : Option Addr) (n c : Nat) : Prop := w.heap[b]? = some (.cells #[.slice none 0 0, .slice none 0 0, .int .u8 1, .bool false, .int .i64 0, .int .i64 0, .int .i64 0, .slice A n c] 52 (0, 0))
/-- A module's block, its methods alone not empty. -/
def Yb11 (w : World) (b : Nat) (A : Option Addr) (n c : Nat) (i : Int) : Prop := w.heap[b]? = some (.cells #[.slice none 0 0, .slice none 0 0, .slice A n c, .int .i64 i] 25 (0, 0))
section
variable {w w' : World} {b n c : Nat} {A : Option Addr} {i : Int}
theorem Xb11.lt (h : Xb11 w b A n c) : b < w.heap.size := (Array.getElem?_eq_some_iff.1 h).1
theorem Yb11.lt (h : Yb11 w b A n c i) : b < w.heap.size := (Array.getElem?_eq_some_iff.1 h).1
theorem Xb11.keep (h : Xb11 w b A n c) {B : Nat} (hb : Below B w w') (hB : b < B) : Xb11 w' b A n c := (hb.block b hB).trans h
theorem Yb11.keep (h : Yb11 w b A n c i) {B : Nat} (hb : Below B w w') (hB : b < B) : Yb11 w' b A n c i := (hb.block b hB).trans h
theorem Xb11.set (h : Xb11 w b A n c) (A' : Option Addr) (n' c' : Nat) : Xb11 (w.setCell ⟨b, 7, none⟩ (.slice A' n' c')) b A' n' c' := heap_setCell_same w b 7 _ _ (.slice A' n' c') h
theorem Yb11.set (h : Yb11 w b A n c i) (A' : Option Addr) (n' c' : Nat) : Yb11 (w.setCell ⟨b, 2, none⟩ (.slice A' n' c')) b A' n' c' i := heap_setCell_same w b 2 _ _ (.slice A' n' c') h
theorem Xb11.cells (h : Xb11 w b A n c) : w.cell? ⟨b, 0, none⟩ = some (.slice none 0 0) ∧ w.cell? ⟨b, 1, none⟩ = some (.slice none 0 0) ∧ w.cell? ⟨b, 2, none⟩ = some (.int .u8 1) ∧ w.cell? ⟨b, 3, none⟩ = some (.bool false) ∧ w.cell? ⟨b, 4, none⟩ = some (.int .i64 0) ∧ w.cell? ⟨b, 5, none⟩ = some (.int .i64 0) ∧ w.cell? ⟨b, 6, none⟩ = some (.int .i64 0) ∧ w.cell? ⟨b, 7, none⟩ = some (.slice A n c) ∧ ∀ j, w.frozen? ⟨b, j, none⟩ = false := by
  have h : w.heap[b]? = _ := h
  refine ⟨?_, ?_, ?_, ?_, ?_, ?_, ?_, ?_, fun j => ?_⟩ <;> simp [World.cell?, World.frozen?, h]
theorem Yb11.cells (h : Yb11 w b A n c i) : w.cell? ⟨b, 0, none⟩ = some (.slice none 0 0) ∧ w.cell? ⟨b, 1, none⟩ = some (.slice none 0 0) ∧ w.cell? ⟨b, 2, none⟩ = some (.slice A n c) ∧ w.cell? ⟨b, 3, none⟩ = some (.int .i64 i) ∧ ∀ j, w.frozen? ⟨b, j, none⟩ = false := by
  have h : w.heap[b]? = _ := h
  refine ⟨?_, ?_, ?_, ?_, fun j => ?_⟩ <;> simp [World.cell?, World.frozen?, h]
end
/-- A method's code: where it lies. -/
abbrev Cz := Option Addr × Nat × List Ins
def me11 (z : Cz) : Me := ⟨⟨none, 0, none, 0, z.1, z.2.2.length, z.2.1⟩, mh11, z.2.2⟩
def cv11 (z : Cz) : Value := .slice z.1 z.2.2.length z.2.1
theorem cd11_succ (b : Nat → Bool) (i : Nat) : cd11 b (i + 1) = cd11 b i ++ (if b i then [(30, ((i : Int), 0))] else []) := by
  rw [cd11, List.range_succ, List.filter_append, List.map_append, ← cd11]
  congr 1
  cases h : b i <;> simp [h]
theorem cd11_none {b : Nat → Bool} (h : ∀ n, b n = false) (i : Nat) : cd11 b i = [] := by
  rw [cd11, List.filter_eq_nil_iff.2 fun n _ => by rw [h]; simp]
  rfl
theorem cd11_len (b : Nat → Bool) (i : Nat) : (cd11 b i).length ≤ i := by
  rw [cd11, List.length_map]
  have := List.length_filter_le b (List.range i)
  rwa [List.length_range] at this
theorem and1_11 (a : Int) (h0 : 0 ≤ a) (h1 : a < 65536) : bits BinOp.and IntKind.u16 a 1 = a % 2 := by
  obtain ⟨b, rfl⟩ : ∃ b : Nat, a = b := ⟨a.toNat, by omega⟩
  have h := u16_and_nat b 1 (by omega) (by omega)
  rw [show ((1 : Nat) : Int) = 1 from rfl] at h
  rw [h, Nat.and_one_is_mod]
  omega
theorem bt11_at {R : List Int} {k n : Nat} {x : Int} (h : R[k]? = some x) (h0 : 0 ≤ x) (h1 : x < 65536) : (bits BinOp.and IntKind.u16 (x / 2 ^ n) 1 == 1) = bt11 R k n := by
  have hp : (0 : Int) < 2 ^ n := Int.pow_pos (by omega)
  rw [bt11, h, and1_11 _ (Int.ediv_nonneg h0 (by omega)) (Int.lt_of_le_of_lt (Int.ediv_le_self _ h0) h1)]
theorem bt11_none {R : List Int} {k n : Nat} (h : R[k]? = none) : bt11 R k n = false := by rw [bt11, h]
theorem ce8_cells11 (w : World) (z : Me) (cs : Array Value) (hcs : cs = (ce8 z).toArray) (t : Nat) : ∀ j u, (ce8 z)[j]? = some u → (w.alloc (.cells cs t)).cell? ((⟨w.heap.size, 0, none⟩ : Addr).add j) = some u := by
  subst hcs
  intro j u hj
  have e : (⟨w.heap.size, 0, none⟩ : Addr).add j = ⟨w.heap.size, j, none⟩ := by
    unfold Addr.add
    split
    · rename_i h0; simp [h0]
    · simp
  rw [e]
  simp [go_sem, hj]
/-- What lies in memory while methods are made: k of them. -/
structure Yk11 (b0 b1 : Nat) (R : List Int) (w0 w : World) (k : Nat) (A : Option Addr) (c : Nat) (Cs : List Cz) : Prop where
  y0 : Yb11 w b0 none 0 0 0
  y1 : Yb11 w b1 A k c (-1)
  row : w.ownsRow (b1 + 1) 52 8 (.slice A k c) k (cem (Cs.map me11))
  each : ∀ z ∈ Cs, w.ownsRow (b1 + 1) 54 3 (cv11 z) z.2.2.length (cei z.2.2)
  map : Cs.map (·.2.2) = (List.range k).map fun k => mc11 (bt11 R k)
  be : Below b0 w0 w
  sz : b1 + 1 ≤ w.heap.size
theorem Yk11.keep {b0 b1 k c : Nat} {R : List Int} {w0 w w' : World} {A : Option Addr} {Cs : List Cz} (h : Yk11 b0 b1 R w0 w k A c Cs) (h01 : b0 + 1 = b1) (hb : Below w.heap.size w w') : Yk11 b0 b1 R w0 w' k A c Cs :=
  ⟨h.y0.keep hb h.y0.lt, h.y1.keep hb h.y1.lt, own_below h.row hb (Nat.le_refl _), fun z hz => own_below (h.each z hz) hb (Nat.le_refl _), h.map, h.be.trans (hb.mono (by have := h.sz; omega)), Nat.le_trans h.sz hb.size⟩
theorem Yk11.put {b0 b1 k c : Nat} {R : List Int} {w0 w w1 w2 : World} {A : Option Addr} {Cs : List Cz} (h : Yk11 b0 b1 R w0 w k A c Cs) (h01 : b0 + 1 = b1) {z : Cz} (hz : w.ownsRow (b1 + 1) 54 3 (cv11 z) z.2.2.length (cei z.2.2)) (hzc : z.2.2 = mc11 (bt11 R k)) {ob : Obj} (hw1 : w1 = w.alloc ob) {A' : Option Addr} {c' : Nat}
    (ho : w2.ownsRow (b1 + 1) 52 8 (.slice A' (k + 1) c') (k + 1) (cem (Cs.map me11 ++ [me11 z]))) (hg : w1.grownBy w2 (Value.slice A k c).ownBlock) (hb : Below (b1 + 1) w1 w2) : Yk11 b0 b1 R w0 (w2.setCell ⟨b1, 2, none⟩ (.slice A' (k + 1) c')) (k + 1) A' c' (Cs ++ [z]) := by
  subst hw1
  have h' := h.keep h01 (new1 (a := ob))
  have hy0 : Yb11 w2 b0 none 0 0 0 := h'.y0.keep hb (by omega)
  have hy1 : Yb11 w2 b1 A k c (-1) := h'.y1.keep hb (by omega)
  have hlow : (⟨b1, 2, none⟩ : Addr).block < b1 + 1 := show b1 < b1 + 1 by omega
  refine ⟨(Below.heap_setCell w2 ⟨b1, 2, none⟩ _ b0 (show b0 ≠ b1 by omega)).trans hy0, hy1.set _ _ _, ?_, fun y hy => ?_, ?_, ?_, ?_⟩
  · rw [List.map_append]
    exact ownsRow_setCell_below ho hlow _
  · refine ownsRow_setCell_below (own_grown ?_ h'.row (by decide) hg) hlow _
    rcases List.mem_append.1 hy with hy | hy
    · exact h'.each y hy
    · rw [List.mem_singleton.1 hy]
      exact hz.alloc ob
  · rw [List.map_append, h.map, List.range_succ, List.map_append]
    simp [hzc]
  · exact (h'.be.trans (hb.mono (by omega))).setCell (p := ⟨b1, 2, none⟩) (show b0 ≤ b1 by omega) _
  · have h1 := hb.size
    have h2 := h'.sz
    simp
    omega
theorem mc11_ok (b : Nat → Bool) : ∀ x ∈ mc11 b, InOk x := by
  intro x hx
  rcases List.mem_append.1 hx with hx | hx
  · rw [cd11, List.mem_map] at hx
    obtain ⟨n, hn, rfl⟩ := hx
    have := List.mem_range.1 (List.mem_filter.1 hn).1
    unfold InOk
    dsimp only
    omega
  · rw [List.mem_singleton.1 hx]
    unfold InOk
    dsimp only
    omega
theorem hq11_of {b many c : Nat} {R : List Int} {w : World} {A : Option Addr} {Cs : List Cz} (hrow : w.ownsRow b 52 8 (.slice A many c) many (cem (Cs.map me11))) (heach : ∀ z ∈ Cs, w.ownsRow b 54 3 (cv11 z) z.2.2.length (cei z.2.2)) (hmap : Cs.map (·.2.2) = (List.range many).map fun k => mc11 (bt11 R k)) : Hq w ⟨none, 0, none, 0, A, c, Cs.map me11⟩ (md11 many R) := by
  have hms : ∀ z ∈ Cs, ∃ k, z.2.2 = mc11 (bt11 R k) := fun z hz => by
    have h1 : z.2.2 ∈ Cs.map (·.2.2) := List.mem_map_of_mem hz
    rw [hmap, List.mem_map] at h1
    obtain ⟨k, _, e⟩ := h1
    exact ⟨k, e.symm⟩
  refine ⟨Rv.none_ w, Rv.none_ w, (Rm.of_own hrow fun z hz => ?_).1, ?_, by unfold md11; dsimp only; decide⟩
  · obtain ⟨y, hy, rfl⟩ := List.mem_map.1 hz
    obtain ⟨k, hk⟩ := hms y hy
    refine ⟨⟨Rd.none_ w, Rd.none_ w, by unfold Mh.nums me11 mh11; dsimp only; decide⟩, (Ri.of_own (heach y hy) fun x hx => ?_).1, rfl⟩
    rw [hk] at hx
    exact mc11_ok _ x hx
  · have e1 : (Cs.map me11).map ze = (Cs.map (·.2.2)).map fun k => (mh11, k) := by
      rw [List.map_map, List.map_map]
      rfl
    dsimp only
    rw [e1, hmap, List.map_map]
    rfl
set_option maxHeartbeats 8000000 in
theorem made11_v (many : Nat) (A : Option Addr) (c n : Nat) (R : List Int) (w : World) (hr : Ru11 w A c R) (hn : R.length = n) (hm : many ≤ 100) : Calls Try.prog 22 #[.int .i64 many, .slice A n c] w fun r w' => ∃ y, r = .returned (dv y (md11 many R)) ∧ Hq w' y (md11 many R) ∧ Below w.heap.size w w' := by
  have HR := Lib.hid hr
  have HN := Lib.hid hn
  have hn9 : n ≤ 9223372036854775807 := by have := hr.2.1; have := hr.2.2.1; unfold maxLen at *; omega
  clear hr hn
  go_enter Try.func22, Try.ntmps22
  go_wp2_with fail
  obtain ⟨b0, hb0⟩ : ∃ b0, w.heap.size = b0 := ⟨_, rfl⟩
  obtain ⟨b1, hb1⟩ : ∃ b1, b0 + 1 = b1 := ⟨_, rfl⟩
  have HY0 : Hid (Yb11 ((w.alloc (.cells #[.slice none 0 0, .slice none 0 0, .slice none 0 0, .int .i64 0] 25)).alloc (.cells #[.slice none 0 0, .slice none 0 0, .slice none 0 0, .int .i64 (-1)] 25)) b0 none 0 0 0) := Lib.hid (by
    have : Yb11 (w.alloc (.cells #[.slice none 0 0, .slice none 0 0, .slice none 0 0, .int .i64 0] 25)) b0 none 0 0 0 := by rw [← hb0]; exact World.alloc_heap_new w _
    exact (Below.heap_alloc _ _ _ this.lt).trans this)
  have HY1 : Hid (Yb11 ((w.alloc (.cells #[.slice none 0 0, .slice none 0 0, .slice none 0 0, .int .i64 0] 25)).alloc (.cells #[.slice none 0 0, .slice none 0 0, .slice none 0 0, .int .i64 (-1)] 25)) b1 none 0 0 (-1)) := Lib.hid (by
    have := World.alloc_heap_new (w.alloc (.cells #[.slice none 0 0, .slice none 0 0, .slice none 0 0, .int .i64 0] 25)) (.cells #[.slice none 0 0, .slice none 0 0, .slice none 0 0, .int .i64 (-1)] 25)
    rw [size1, hb0, hb1] at this
    exact this)
  have HB0 : Hid (Below b0 w ((w.alloc (.cells #[.slice none 0 0, .slice none 0 0, .slice none 0 0, .int .i64 0] 25)).alloc (.cells #[.slice none 0 0, .slice none 0 0, .slice none 0 0, .int .i64 (-1)] 25))) := Lib.hid (((Below.refl b0 w).alloc (by omega) _).alloc (by rw [size1]; omega) _)
  have hs0 : ((w.alloc (.cells #[.slice none 0 0, .slice none 0 0, .slice none 0 0, .int .i64 0] 25)).alloc (.cells #[.slice none 0 0, .slice none 0 0, .slice none 0 0, .int .i64 (-1)] 25)).heap.size = b1 + 1 := by rw [size1, size1]; omega
  have HBB := Lib.hid hb0
  have HBC := Lib.hid hb1
  rw [hb0, hb1]
  generalize ((w.alloc (.cells #[.slice none 0 0, .slice none 0 0, .slice none 0 0, .int .i64 0] 25)).alloc (.cells #[.slice none 0 0, .slice none 0 0, .slice none 0 0, .int .i64 (-1)] 25)) = w1 at HY0 HY1 HB0 hs0 ⊢
  clear hb0 hb1
  have HYK0 : Hid (Yk11 b0 b1 R w w1 0 none 0 []) := Lib.hid ⟨HY0.out, HY1.out, World.ownsRow_nil _ _ _ _, fun z hz => (by cases hz), rfl, HB0.out, by omega⟩
  clear HY0 HY1 HB0 hs0
  go_loopw [6] (fun iv wr => ∃ (k : Nat) (A1 : Option Addr) (c1 : Nat) (Cs : List Cz), k ≤ many ∧ iv = .int .i64 k ∧ Hid (Yk11 b0 b1 R w wr k A1 c1 Cs)) (fun iv _ => many - (intOf iv).toNat)
  case atStart => exact ⟨0, none, 0, [], by omega, rfl, HYK0⟩
  case round =>
    clear HYK0
    obtain ⟨k, A1, c1, Cs, hk, rfl, HYK⟩ := hrel
    rename World => wr
    have hsz := HYK.out.sz
    have HB := Lib.hid HYK.out.be
    by_cases h1 : k < many
    · obtain ⟨x, hx⟩ : ∃ x, wr.heap.size = x := ⟨_, rfl⟩
      have HXX := Lib.hid hx
      have HXB : Hid (Xb11 (wr.alloc (.cells #[.slice none 0 0, .slice none 0 0, .int .u8 1, .bool false, .int .i64 0, .int .i64 0, .int .i64 0, .slice none 0 0] 52)) x none 0 0) := Lib.hid (by
        have := World.alloc_heap_new wr (.cells #[.slice none 0 0, .slice none 0 0, .int .u8 1, .bool false, .int .i64 0, .int .i64 0, .int .i64 0, .slice none 0 0] 52)
        rw [hx] at this
        exact this)
      have HXW : Hid (Below x wr (wr.alloc (.cells #[.slice none 0 0, .slice none 0 0, .int .u8 1, .bool false, .int .i64 0, .int .i64 0, .int .i64 0, .slice none 0 0] 52))) := Lib.hid ((Below.refl _ _).alloc (by omega) _)
      have hxs : (wr.alloc (.cells #[.slice none 0 0, .slice none 0 0, .int .u8 1, .bool false, .int .i64 0, .int .i64 0, .int .i64 0, .slice none 0 0] 52)).heap.size = x + 1 := by rw [size1, hx]
      clear hx
      go_wp2_with fail
      rw [HXX.out]
      generalize (wr.alloc (.cells #[.slice none 0 0, .slice none 0 0, .int .u8 1, .bool false, .int .i64 0, .int .i64 0, .int .i64 0, .slice none 0 0] 52)) = w2 at HXB HXW hxs ⊢
      go_loopw [8] (fun jv wq => ∃ (i : Nat) (Ac : Option Addr) (lc cc : Nat), i ≤ 16 ∧ jv = .int .i64 i ∧ Hid (Xb11 wq x Ac lc cc) ∧ Hid (wq.ownsRow (x + 1) 54 3 (.slice Ac lc cc) lc (cei (cd11 (bt11 R k) i))) ∧ Hid (lc = (cd11 (bt11 R k) i).length) ∧ Hid (Below x wr wq) ∧ x + 1 ≤ wq.heap.size) (fun jv _ => 16 - (intOf jv).toNat)
      case atStart => exact ⟨0, none, 0, 0, by omega, rfl, HXB, Lib.hid (World.ownsRow_nil _ _ _ _), Lib.hid rfl, HXW, by omega⟩
      case round =>
        clear HXB HXW hxs
        obtain ⟨i, Ac, lc, cc, hi, rfl, HXB, HCO, HLC, HXW, hxs⟩ := hrel
        rename World => wq
        by_cases h2 : i < 16
        · by_cases h3 : k < n
          · obtain ⟨rx, hrx⟩ : ∃ rx, R[k]? = some rx := ⟨_, List.getElem?_eq_getElem (by rw [HN.out]; exact h3)⟩
            have hrw := HR.out.keep (w' := wq) (by rw [HBB.out]; exact HB.out.trans (HXW.out.mono (by have := HXX.out; have := HBC.out; omega)))
            obtain ⟨ad, hA, y0⟩ := hrw.at_ hrx
            subst hA
            clear hrw
            have hx0 := HR.out.1 rx (List.mem_of_getElem? hrx)
            have eb := bt11_at (n := i) hrx hx0.1 hx0.2
            obtain ⟨v, hv⟩ : ∃ v, bt11 R k i = v := ⟨_, rfl⟩
            rw [hv] at eb
            have HV := Lib.hid hv
            have HCD := Lib.hid (cd11_succ (bt11 R k) i)
            rw [Hid, hv] at HCD
            have HCD := Lib.hid HCD
            clear hrx hx0 hv
            cases v with
            | false =>
              have HCO2 : Hid (wq.ownsRow (x + 1) 54 3 (.slice Ac lc cc) lc (cei (cd11 (bt11 R k) (i + 1)))) := Lib.hid (by rw [HCD.out]; simpa using HCO.out)
              have HLC2 : Hid (lc = (cd11 (bt11 R k) (i + 1)).length) := Lib.hid (by rw [HCD.out]; simpa using HLC.out)
              go_wp2_with fail
              go_roundw
              case rel => exact ⟨i + 1, Ac, lc, cc, by omega, by go_num, HXB, HCO2, HLC2, HXW, hxs⟩
              case measure => simp [intOf]; omega
            | true =>
              obtain ⟨-, -, -, -, -, -, -, x7, xf⟩ := HXB.out.cells
              have x7f := xf 7
              have x7l := HXB.out.lt
              have hlc9 : lc ≤ 16 := by rw [HLC.out]; exact Nat.le_trans (cd11_len _ _) hi
              have HO1 := Lib.hid (HCO.out.alloc (.cells #[.int .u8 30, .int .i64 (i : Int), .int .i64 0] 54))
              have HR1 := Lib.hid (ri_new wq (30, ((i : Int), 0)) (by unfold InOk; dsimp only; omega))
              clear xf
              go_wp2_with (at_builtin; refine wpList_append_ri _ rfl (.tmp 35) (.tmp 38) rfl (x + 1) _ lc (cd11 (bt11 R k) i) rfl HO1.out _ 1 1 [(30, ((i : Int), 0))] rfl HR1.out rfl (by omega) (by rw [size1]; omega) ?_; intro A9 c9 w9 ho9 hb9; have HX9 := Lib.hid ((HXB.out.keep (new1 (a := .cells #[.int .u8 30, .int .i64 (i : Int), .int .i64 0] 54)) HXB.out.lt).keep hb9 (by omega)); have HO9 := Lib.hid ho9; have HB9 := Lib.hid hb9; obtain ⟨-, -, -, -, -, -, -, z7, zf⟩ := HX9.out.cells; have z7f := zf 7; have z7l := HX9.out.lt; clear zf ho9 hb9)
              have HXB2 := Lib.hid (HX9.out.set A9 (lc + 1) c9)
              have HCO2 : Hid ((w9.setCell ⟨x, 7, none⟩ (.slice A9 (lc + 1) c9)).ownsRow (x + 1) 54 3 (.slice A9 (lc + 1) c9) (lc + 1) (cei (cd11 (bt11 R k) (i + 1)))) := Lib.hid (by
                rw [HCD.out]
                exact ownsRow_setCell_below HO9.out (show (⟨x, 7, none⟩ : Addr).block < x + 1 from by show x < x + 1; omega) _)
              have HLC2 : Hid (lc + 1 = (cd11 (bt11 R k) (i + 1)).length) := Lib.hid (by rw [HCD.out, List.length_append, ← HLC.out]; rfl)
              have HXW2 : Hid (Below x wr (w9.setCell ⟨x, 7, none⟩ (.slice A9 (lc + 1) c9))) := Lib.hid (((HXW.out.alloc (by omega) _).trans (HB9.out.mono (by omega))).setCell (p := ⟨x, 7, none⟩) (Nat.le_refl _) _)
              have hxs2 : x + 1 ≤ (w9.setCell ⟨x, 7, none⟩ (.slice A9 (lc + 1) c9)).heap.size := by have := HB9.out.size; rw [size1] at this; simp; omega
              go_roundw
              case rel => exact ⟨i + 1, A9, lc + 1, c9, by omega, by go_num, HXB2, HCO2, HLC2, HXW2, hxs2⟩
              case measure => simp [intOf]; omega
          · have HCD : Hid (cd11 (bt11 R k) i = cd11 (bt11 R k) 16) := Lib.hid (by
              have h := fun n => bt11_none (R := R) (k := k) (n := n) (List.getElem?_eq_none (by rw [HN.out]; omega))
              rw [cd11_none h, cd11_none h])
            have HCO2 : Hid (wq.ownsRow (x + 1) 54 3 (.slice Ac lc cc) lc (cei (cd11 (bt11 R k) 16))) := Lib.hid (by have h := HCO.out; rw [HCD.out] at h; exact h)
            have HLC2 : Hid (lc = (cd11 (bt11 R k) 16).length) := Lib.hid (by have h := HLC.out; rw [HCD.out] at h; exact h)
            clear HCO HLC HCD
            obtain ⟨-, -, -, -, -, -, -, x7, xf⟩ := HXB.out.cells
            have x7f := xf 7
            have x7l := HXB.out.lt
            have hlc9 : lc ≤ 16 := by rw [HLC2.out]; exact cd11_len _ _
            have HO1 := Lib.hid (HCO2.out.alloc (.cells #[.int .u8 32, .int .i64 0, .int .i64 0] 54))
            have HR1 := Lib.hid (ri_new wq (32, (0, 0)) (by unfold InOk; dsimp only; omega))
            clear xf
            go_upto_region 12 with (at_builtin; (refine wpList_append_ri _ rfl (.tmp 42) (.tmp 44) rfl (x + 1) _ lc (cd11 (bt11 R k) 16) rfl HO1.out _ 1 1 [(32, (0, 0))] rfl HR1.out rfl (by omega) (by rw [size1]; omega) ?_; intro A9 c9 w9 ho9 hb9; have HX9 := Lib.hid ((HXB.out.keep (new1 (a := .cells #[.int .u8 32, .int .i64 0, .int .i64 0] 54)) HXB.out.lt).keep hb9 (by omega)); have HO9 := Lib.hid ho9; have HB9 := Lib.hid hb9; obtain ⟨-, -, -, -, -, -, -, z7, zf⟩ := HX9.out.cells; have z7f := zf 7; have z7l := HX9.out.lt; clear zf ho9 hb9))
            have HXB2 := Lib.hid (HX9.out.set A9 (lc + 1) c9)
            have hcode : cd11 (bt11 R k) 16 ++ [(32, (0, 0))] = mc11 (bt11 R k) := rfl
            have HLC3 : Hid (lc + 1 = (mc11 (bt11 R k)).length) := Lib.hid (by rw [← hcode, List.length_append, ← HLC2.out]; rfl)
            have HCO3 : Hid ((w9.setCell ⟨x, 7, none⟩ (.slice A9 (lc + 1) c9)).ownsRow (b1 + 1) 54 3 (cv11 (A9, c9, mc11 (bt11 R k))) (mc11 (bt11 R k)).length (cei (mc11 (bt11 R k)))) := Lib.hid (by
              rw [cv11, ← HLC3.out, ← hcode]
              exact own_base (ownsRow_setCell_below HO9.out (show (⟨x, 7, none⟩ : Addr).block < x + 1 from by show x < x + 1; omega) _) (by have := HXX.out; omega))
            have HBX : Hid (Below wr.heap.size wr (w9.setCell ⟨x, 7, none⟩ (.slice A9 (lc + 1) c9))) := Lib.hid (by
              rw [HXX.out]
              exact ((HXW.out.alloc (by omega) _).trans (HB9.out.mono (by omega))).setCell (p := ⟨x, 7, none⟩) (Nat.le_refl _) _)
            have HYK2 := Lib.hid (HYK.out.keep HBC.out HBX.out)
            generalize w9.setCell ⟨x, 7, none⟩ (.slice A9 (lc + 1) c9) = w10 at HXB2 HCO3 HYK2 ⊢
            clear HXB HXW hxs HB hsz HYK HBX HX9 HO9 HB9 x7 x7f x7l z7 z7f z7l HO1 HR1 HCO2 HLC2 hcode
            obtain ⟨e0, e1, e2, e3, e4, e5, e6, e7, -⟩ := HXB2.out.cells
            obtain ⟨-, -, m2, -, mf⟩ := HYK2.out.y1.cells
            have m2f := mf 2
            have m2l := HYK2.out.y1.lt
            have HZE : Hid (me11 (A9, c9, mc11 (bt11 R k)) = ⟨⟨none, 0, none, 0, A9, lc + 1, c9⟩, mh11, mc11 (bt11 R k)⟩) := Lib.hid (by rw [HLC3.out]; rfl)
            have HOM := Lib.hid (HYK2.out.row.alloc (.cells #[.slice none 0 0, .slice none 0 0, .int .u8 1, .bool false, .int .i64 0, .int .i64 0, .int .i64 0, .slice A9 (lc + 1) c9] 52))
            have HCE := Lib.hid (ce8_cells11 w10 ⟨⟨none, 0, none, 0, A9, lc + 1, c9⟩, mh11, mc11 (bt11 R k)⟩ #[.slice none 0 0, .slice none 0 0, .int .u8 1, .bool false, .int .i64 0, .int .i64 0, .int .i64 0, .slice A9 (lc + 1) c9] rfl 52)
            clear mf
            go_wp2_with (at_builtin; (refine wpList_append_rm _ rfl (.tmp 48) (.tmp 50) rfl (b1 + 1) _ k (Cs.map me11) rfl HOM.out _ ⟨⟨none, 0, none, 0, A9, lc + 1, c9⟩, mh11, mc11 (bt11 R k)⟩ rfl HCE.out (by omega) (by have := HYK2.out.sz; rw [size1]; omega) ?_; intro A11 c11 w11 ho11 hg11 hb11 hl11; have HY11 := Lib.hid ((HYK2.out.keep HBC.out (new1 (a := .cells #[.slice none 0 0, .slice none 0 0, .int .u8 1, .bool false, .int .i64 0, .int .i64 0, .int .i64 0, .slice A9 (lc + 1) c9] 52))).y1.keep hb11 (by omega)); have HYP := Lib.hid (HYK2.out.put HBC.out HCO3.out rfl rfl (w2 := w11) (A' := A11) (c' := c11) (by rw [HZE.out]; exact ho11) hg11 hb11); obtain ⟨-, -, n2, -, nf⟩ := HY11.out.cells; have n2f := nf 2; have n2l := HY11.out.lt; clear ho11 hg11 hb11 hl11 nf))
            go_roundw
            case rel => exact ⟨k + 1, A11, c11, _, by omega, by go_num, HYP⟩
            case measure => simp [intOf]; omega
        · obtain rfl : i = 16 := by omega
          have HCD : Hid (cd11 (bt11 R k) 16 = cd11 (bt11 R k) 16) := Lib.hid rfl
          have HCO2 : Hid (wq.ownsRow (x + 1) 54 3 (.slice Ac lc cc) lc (cei (cd11 (bt11 R k) 16))) := Lib.hid (by have h := HCO.out; rw [HCD.out] at h; exact h)
          have HLC2 : Hid (lc = (cd11 (bt11 R k) 16).length) := Lib.hid (by have h := HLC.out; rw [HCD.out] at h; exact h)
          clear HCO HLC HCD
          obtain ⟨-, -, -, -, -, -, -, x7, xf⟩ := HXB.out.cells
          have x7f := xf 7
          have x7l := HXB.out.lt
          have hlc9 : lc ≤ 16 := by rw [HLC2.out]; exact cd11_len _ _
          have HO1 := Lib.hid (HCO2.out.alloc (.cells #[.int .u8 32, .int .i64 0, .int .i64 0] 54))
          have HR1 := Lib.hid (ri_new wq (32, (0, 0)) (by unfold InOk; dsimp only; omega))
          clear xf
          go_upto_region 12 with (at_builtin; (refine wpList_append_ri _ rfl (.tmp 42) (.tmp 44) rfl (x + 1) _ lc (cd11 (bt11 R k) 16) rfl HO1.out _ 1 1 [(32, (0, 0))] rfl HR1.out rfl (by omega) (by rw [size1]; omega) ?_; intro A9 c9 w9 ho9 hb9; have HX9 := Lib.hid ((HXB.out.keep (new1 (a := .cells #[.int .u8 32, .int .i64 0, .int .i64 0] 54)) HXB.out.lt).keep hb9 (by omega)); have HO9 := Lib.hid ho9; have HB9 := Lib.hid hb9; obtain ⟨-, -, -, -, -, -, -, z7, zf⟩ := HX9.out.cells; have z7f := zf 7; have z7l := HX9.out.lt; clear zf ho9 hb9))
          have HXB2 := Lib.hid (HX9.out.set A9 (lc + 1) c9)
          have hcode : cd11 (bt11 R k) 16 ++ [(32, (0, 0))] = mc11 (bt11 R k) := rfl
          have HLC3 : Hid (lc + 1 = (mc11 (bt11 R k)).length) := Lib.hid (by rw [← hcode, List.length_append, ← HLC2.out]; rfl)
          have HCO3 : Hid ((w9.setCell ⟨x, 7, none⟩ (.slice A9 (lc + 1) c9)).ownsRow (b1 + 1) 54 3 (cv11 (A9, c9, mc11 (bt11 R k))) (mc11 (bt11 R k)).length (cei (mc11 (bt11 R k)))) := Lib.hid (by
            rw [cv11, ← HLC3.out, ← hcode]
            exact own_base (ownsRow_setCell_below HO9.out (show (⟨x, 7, none⟩ : Addr).block < x + 1 from by show x < x + 1; omega) _) (by have := HXX.out; omega))
          have HBX : Hid (Below wr.heap.size wr (w9.setCell ⟨x, 7, none⟩ (.slice A9 (lc + 1) c9))) := Lib.hid (by
            rw [HXX.out]
            exact ((HXW.out.alloc (by omega) _).trans (HB9.out.mono (by omega))).setCell (p := ⟨x, 7, none⟩) (Nat.le_refl _) _)
          have HYK2 := Lib.hid (HYK.out.keep HBC.out HBX.out)
          generalize w9.setCell ⟨x, 7, none⟩ (.slice A9 (lc + 1) c9) = w10 at HXB2 HCO3 HYK2 ⊢
          clear HXB HXW hxs HB hsz HYK HBX HX9 HO9 HB9 x7 x7f x7l z7 z7f z7l HO1 HR1 HCO2 HLC2 hcode
          obtain ⟨e0, e1, e2, e3, e4, e5, e6, e7, -⟩ := HXB2.out.cells
          obtain ⟨-, -, m2, -, mf⟩ := HYK2.out.y1.cells
          have m2f := mf 2
          have m2l := HYK2.out.y1.lt
          have HZE : Hid (me11 (A9, c9, mc11 (bt11 R k)) = ⟨⟨none, 0, none, 0, A9, lc + 1, c9⟩, mh11, mc11 (bt11 R k)⟩) := Lib.hid (by rw [HLC3.out]; rfl)
          have HOM := Lib.hid (HYK2.out.row.alloc (.cells #[.slice none 0 0, .slice none 0 0, .int .u8 1, .bool false, .int .i64 0, .int .i64 0, .int .i64 0, .slice A9 (lc + 1) c9] 52))
          have HCE := Lib.hid (ce8_cells11 w10 ⟨⟨none, 0, none, 0, A9, lc + 1, c9⟩, mh11, mc11 (bt11 R k)⟩ #[.slice none 0 0, .slice none 0 0, .int .u8 1, .bool false, .int .i64 0, .int .i64 0, .int .i64 0, .slice A9 (lc + 1) c9] rfl 52)
          clear mf
          go_wp2_with (at_builtin; (refine wpList_append_rm _ rfl (.tmp 48) (.tmp 50) rfl (b1 + 1) _ k (Cs.map me11) rfl HOM.out _ ⟨⟨none, 0, none, 0, A9, lc + 1, c9⟩, mh11, mc11 (bt11 R k)⟩ rfl HCE.out (by omega) (by have := HYK2.out.sz; rw [size1]; omega) ?_; intro A11 c11 w11 ho11 hg11 hb11 hl11; have HY11 := Lib.hid ((HYK2.out.keep HBC.out (new1 (a := .cells #[.slice none 0 0, .slice none 0 0, .int .u8 1, .bool false, .int .i64 0, .int .i64 0, .int .i64 0, .slice A9 (lc + 1) c9] 52))).y1.keep hb11 (by omega)); have HYP := Lib.hid (HYK2.out.put HBC.out HCO3.out rfl rfl (w2 := w11) (A' := A11) (c' := c11) (by rw [HZE.out]; exact ho11) hg11 hb11); obtain ⟨-, -, n2, -, nf⟩ := HY11.out.cells; have n2f := nf 2; have n2l := HY11.out.lt; clear ho11 hg11 hb11 hl11 nf))
          go_roundw
          case rel => exact ⟨k + 1, A11, c11, _, by omega, by go_num, HYP⟩
          case measure => simp [intOf]; omega
    · obtain rfl : many = k := by omega
      obtain ⟨p0, p1, p2, p3, pf⟩ := HYK.out.y0.cells
      obtain ⟨q0, q1, q2, q3, -⟩ := HYK.out.y1.cells
      have pf0 := pf 0
      have pf1 := pf 1
      have pf2 := pf 2
      have pf3 := pf 3
      have p0l := HYK.out.y0.lt
      clear pf
      go_wp2_with fail
      have hlow : ∀ j, (⟨b0, j, none⟩ : Addr).block < b1 + 1 := fun j => show b0 < b1 + 1 by have := HBC.out; omega
      have HQF : Hq ((((wr.setCell ⟨b0, 0, none⟩ (.slice none 0 0)).setCell ⟨b0, 1, none⟩ (.slice none 0 0)).setCell ⟨b0, 2, none⟩ (.slice A1 many c1)).setCell ⟨b0, 3, none⟩ (.int .i64 (-1))) ⟨none, 0, none, 0, A1, c1, Cs.map me11⟩ (md11 many R) := by
        refine hq11_of (ownsRow_setCell_below (ownsRow_setCell_below (ownsRow_setCell_below (ownsRow_setCell_below HYK.out.row (hlow 0) _) (hlow 1) _) (hlow 2) _) (hlow 3) _) (fun z hz => ?_) HYK.out.map
        exact ownsRow_setCell_below (ownsRow_setCell_below (ownsRow_setCell_below (ownsRow_setCell_below (HYK.out.each z hz) (hlow 0) _) (hlow 1) _) (hlow 2) _) (hlow 3) _
      have HBF : Below w.heap.size w ((((wr.setCell ⟨b0, 0, none⟩ (.slice none 0 0)).setCell ⟨b0, 1, none⟩ (.slice none 0 0)).setCell ⟨b0, 2, none⟩ (.slice A1 many c1)).setCell ⟨b0, 3, none⟩ (.int .i64 (-1))) := by
        rw [HBB.out]
        exact (((HYK.out.be.setCell (p := ⟨b0, 0, none⟩) (Nat.le_refl _) _).setCell (p := ⟨b0, 1, none⟩) (Nat.le_refl _) _).setCell (p := ⟨b0, 2, none⟩) (Nat.le_refl _) _).setCell (p := ⟨b0, 3, none⟩) (Nat.le_refl _) _
      have hlen : (md11 many R).s.length = many := by simp [md11]
      exact bodyPost_ret (v := .agg #[.slice none 0 0, .slice none 0 0, .slice A1 many c1, .int .i64 (-1)]) (by simp [results, Try.results22, go_sem, p0, p1, p2, p3]) rfl ⟨⟨none, 0, none, 0, A1, c1, Cs.map me11⟩, by rw [dv, hlen]; rfl, HQF, HBF⟩
end Go.Proofs.Ytfbabbddiplgkaa
namespace Go.Proofs.Ytfbabbddiplgkaa
open Go.RowKit
set_option maxRecDepth 100000
set_option linter.unusedSimpArgs false
set_option linter.unusedVariables false

theorem made11_lit (many : Nat) (R : List Int) (w : World) (n : Nat) (cs : Array Value) (t : Nat) (hcs : cs = (R.map (Value.int .u16)).toArray) (hn : R.length = n) (hl : n ≤ 1000) (hm : many ≤ 100) (hok : ∀ x ∈ R, 0 ≤ x ∧ x < 65536) :
    Calls Try.prog 22 #[.int .i64 many, .slice (some ⟨w.heap.size, 0, none⟩) n n] (w.alloc (.cells cs t)) fun r w' => ∃ y, r = .returned (dv y (md11 many R)) ∧ Hq w' y (md11 many R) ∧ Below w.heap.size w w' := by
  subst hcs
  have h : Ru11 (w.alloc (.cells (R.map (Value.int .u16)).toArray t)) (some ⟨w.heap.size, 0, none⟩) n R := ⟨hok, Nat.le_of_eq hn, by unfold maxLen; omega, .inr ⟨_, rfl, fun i x hx => by
    have e : (⟨w.heap.size, 0, none⟩ : Addr).add i = ⟨w.heap.size, i, none⟩ := by
      unfold Addr.add
      split
      · rename_i h0; simp [h0]
      · simp
    rw [e]
    simp [go_sem, hx]⟩⟩
  refine (made11_v many _ n n R _ h hn hm).mono ?_
  rintro r w' ⟨y, rfl, hq, hb⟩
  exact ⟨y, rfl, hq, new1.trans (hb.mono (by rw [size1]; omega))⟩
theorem md11_len (many : Nat) (R : List Int) : (md11 many R).s.length = many := by simp [md11]
theorem md11_bl (many : Nat) (R : List Int) : ∀ z ∈ (md11 many R).s, z.2.length ≤ 1000 := by
  intro z hz
  rw [md11] at hz
  obtain ⟨k, _, rfl⟩ := List.mem_map.1 hz
  dsimp only
  rw [mc11, List.length_append]
  have := cd11_len (bt11 R k) 16
  simp
  omega
set_option maxHeartbeats 8000000 in
theorem awake11_v (w : World) : Calls Try.prog 21 #[] w fun r w' => r = .returned (.bool true) ∧ Below w.heap.size w w' := by
  obtain ⟨d, hd⟩ : ∃ d, md11 3 [6, 4, 0] = d := ⟨_, rfl⟩
  have E1 : Hid (wh11 d 0 = ([1, 2], 0)) := by unfold Hid; rw [← hd]; decide
  have E2 : Hid (ro11 d = ([2, 1, 0], 0)) := by unfold Hid; rw [← hd]; decide
  have E3 : Hid (le11 d 0 = ([1, 2], 0)) := by unfold Hid; rw [← hd]; decide
  have E4 : Hid (de11 d = ([3, 2, 1], 0)) := by unfold Hid; rw [← hd]; decide
  have E5 : Hid ((ro11 (md11 3 [6, 4, 1])).2 = 110) := by unfold Hid; decide
  have E6 : Hid ((ro11 (md11 3 [6, 4, 8])).2 = 2) := by unfold Hid; decide
  have HBS : Hid (d.s.length ≤ 1000) := Lib.hid (by rw [← hd, md11_len]; omega)
  have HBL : Hid (∀ z ∈ d.s, z.2.length ≤ 1000) := Lib.hid (by rw [← hd]; exact md11_bl _ _)
  have HD := Lib.hid hd
  go_enter Try.func21, Try.ntmps21
  go_wp2_with fail
  refine (made11_lit 3 [6, 4, 0] _ 3 _ _ rfl rfl (by omega) (by omega) (by decide)).mono ?_
  rw [hd]
  clear hd
  rintro r w1 ⟨y, rfl, hq, hb⟩
  have S1 := Lib.hid ((((Sx.start w).call hb).add (fQm y d) hq))
  have S2 := Lib.hid (S1.out.mkD y d)
  obtain ⟨B, hB⟩ : ∃ B, w1.heap.size = B := ⟨_, rfl⟩
  rw [hB] at S2
  clear hq hb S1
  go_upto_region 2 with (fail)
  have hw2 : w1.alloc (.cells #[.slice y.G d.g.length y.gc, .slice y.P d.p.length y.pc, .slice y.A d.s.length y.c, .int .i64 d.i] 25) = w1.alloc (dcel y d) := rfl
  rw [hw2]
  clear hw2
  generalize w1.alloc (dcel y d) = wn1 at S2 ⊢
  try rw [hB]
  clear hB
  have H2 := Lib.hid (whom11_v y d 0 wn1 S2.out.2.2.1 HBS.out HBL.out)
  rw [E1.out] at H2
  obtain ⟨-, ⟨d0, d1, d2, d3, d4⟩, -⟩ := S2.out
  go_wp2_with fail
  refine H2.out.mono ?_
  rintro r wn2 ⟨A2, c2, rfl, ho, hb⟩
  have S3 := Lib.hid ((S2.out.call hb).add (fRn A2 c2 [1, 2]) (Rn.of_own ho).1)
  dsimp only [List.length_cons, List.length_nil]
  clear ho hb H2 S2 d0 d1 d2 d3 d4
  have H3 := Lib.hid (order11_v y d wn2 S3.out.2.2.2.1 HBS.out HBL.out)
  rw [E2.out] at H3
  obtain ⟨-, -, ⟨d0, d1, d2, d3, d4⟩, -⟩ := S3.out
  go_wp2_with fail
  refine H3.out.mono ?_
  rintro r wn3 ⟨A3, c3, rfl, ho, hb⟩
  have S4 := Lib.hid ((S3.out.call hb).add (fRn A3 c3 [2, 1, 0]) (Rn.of_own ho).1)
  dsimp only [List.length_cons, List.length_nil]
  clear ho hb H3 S3 d0 d1 d2 d3 d4
  have H4 := Lib.hid (leadsT_v y d 0 wn3 S4.out.2.2.2.2.1 HBS.out HBL.out)
  rw [E3.out] at H4
  obtain ⟨-, -, -, ⟨d0, d1, d2, d3, d4⟩, -⟩ := S4.out
  go_wp2_with fail
  refine H4.out.mono ?_
  rintro r wn4 ⟨A4, c4, rfl, ho, hb⟩
  have S5 := Lib.hid ((S4.out.call hb).add (fRn A4 c4 [1, 2]) (Rn.of_own ho).1)
  dsimp only [List.length_cons, List.length_nil]
  clear ho hb H4 S4 d0 d1 d2 d3 d4
  have H5 := Lib.hid (deep11_v y d wn4 S5.out.2.2.2.2.2.1 HBS.out HBL.out)
  rw [E4.out] at H5
  obtain ⟨-, -, -, -, ⟨d0, d1, d2, d3, d4⟩, -⟩ := S5.out
  go_wp2_with fail
  refine H5.out.mono ?_
  rintro r wn5 ⟨A5, c5, rfl, ho, hb⟩
  have S6 := Lib.hid ((S5.out.call hb).add (fRn A5 c5 [3, 2, 1]) (Rn.of_own ho).1)
  dsimp only [List.length_cons, List.length_nil]
  clear ho hb H5 S5 d0 d1 d2 d3 d4
  have HL6 := Lib.hid (Rn.new wn5 [1, 2] 3 (by unfold maxLen; simp))
  have HA6 := Lib.hid (are11_v A2 _ c2 2 2 2 [1, 2] [1, 2] _ ((S6.out.2.2.2.2.1).keep new1) HL6.out rfl rfl)
  go_wp2_with fail
  refine HA6.out.mono ?_
  rintro r wn6 ⟨rfl, hb⟩
  have S7 := Lib.hid ((S6.out.call (new1 (a := .cells #[.int .i64 1, .int .i64 2] 3))).call hb)
  dsimp only
  rw [show (([1, 2] : List Int) == [1, 2]) = true from by decide]
  clear hb HA6 HL6 S6
  have HL7 := Lib.hid (Rn.new wn6 [2, 1, 0] 3 (by unfold maxLen; simp))
  have HA7 := Lib.hid (are11_v A3 _ c3 3 3 3 [2, 1, 0] [2, 1, 0] _ ((S7.out.2.2.2.1).keep new1) HL7.out rfl rfl)
  go_wp2_with fail
  refine HA7.out.mono ?_
  rintro r wn7 ⟨rfl, hb⟩
  have S8 := Lib.hid ((S7.out.call (new1 (a := .cells #[.int .i64 2, .int .i64 1, .int .i64 0] 3))).call hb)
  dsimp only
  rw [show (([2, 1, 0] : List Int) == [2, 1, 0]) = true from by decide]
  clear hb HA7 HL7 S7
  have HL8 := Lib.hid (Rn.new wn7 [1, 2] 3 (by unfold maxLen; simp))
  have HA8 := Lib.hid (are11_v A4 _ c4 2 2 2 [1, 2] [1, 2] _ ((S8.out.2.2.1).keep new1) HL8.out rfl rfl)
  go_wp2_with fail
  refine HA8.out.mono ?_
  rintro r wn8 ⟨rfl, hb⟩
  have S9 := Lib.hid ((S8.out.call (new1 (a := .cells #[.int .i64 1, .int .i64 2] 3))).call hb)
  dsimp only
  rw [show (([1, 2] : List Int) == [1, 2]) = true from by decide]
  clear hb HA8 HL8 S8
  have HL9 := Lib.hid (Rn.new wn8 [3, 2, 1] 3 (by unfold maxLen; simp))
  have HA9 := Lib.hid (are11_v A5 _ c5 3 3 3 [3, 2, 1] [3, 2, 1] _ ((S9.out.2.1).keep new1) HL9.out rfl rfl)
  go_wp2_with fail
  refine HA9.out.mono ?_
  rintro r wn9 ⟨rfl, hb⟩
  have S10 := Lib.hid ((S9.out.call (new1 (a := .cells #[.int .i64 3, .int .i64 2, .int .i64 1] 3))).call hb)
  dsimp only
  rw [show (([3, 2, 1] : List Int) == [3, 2, 1]) = true from by decide]
  clear hb HA9 HL9 S9
  go_wp2_with fail
  refine (made11_lit 3 [6, 4, 1] _ 3 _ _ rfl rfl (by omega) (by omega) (by decide)).mono ?_
  rintro r wn10 ⟨y10, rfl, hq, hb⟩
  obtain ⟨d10, hd10⟩ : ∃ d, md11 3 [6, 4, 1] = d := ⟨_, rfl⟩
  have HC10 := Lib.hid (check11_v y10 (md11 3 [6, 4, 1]) wn10 hq (by rw [md11_len]; omega) (md11_bl _ _))
  rw [E5.out] at HC10
  rw [hd10] at HC10 ⊢
  have S11 := Lib.hid (S10.out.call hb)
  clear hq hb hd10 S10
  go_wp2_with fail
  refine HC10.out.mono ?_
  rintro r wm10 ⟨rfl, hb⟩
  have S12 := Lib.hid (S11.out.call hb)
  clear hb HC10 S11
  go_wp2_with fail
  refine (made11_lit 3 [6, 4, 8] _ 3 _ _ rfl rfl (by omega) (by omega) (by decide)).mono ?_
  rintro r wn12 ⟨y12, rfl, hq, hb⟩
  obtain ⟨d12, hd12⟩ : ∃ d, md11 3 [6, 4, 8] = d := ⟨_, rfl⟩
  have HC12 := Lib.hid (check11_v y12 (md11 3 [6, 4, 8]) wn12 hq (by rw [md11_len]; omega) (md11_bl _ _))
  rw [E6.out] at HC12
  rw [hd12] at HC12 ⊢
  have S13 := Lib.hid (S12.out.call hb)
  clear hq hb hd12 S12
  go_wp2_with fail
  refine HC12.out.mono ?_
  rintro r wm12 ⟨rfl, hb⟩
  have S14 := Lib.hid (S13.out.call hb)
  clear hb HC12 S13
  go_wp2_with fail
  go_ret
  exact ⟨rfl, S14.out.1⟩
end Go.Proofs.Ytfbabbddiplgkaa
namespace Go.Proofs.Ytfbabbddiplgkaa
open Go.RowKit
set_option maxRecDepth 100000
set_option linter.unusedSimpArgs false
set_option linter.unusedVariables false

theorem dp11_congr {e e' : Nat → Nat → Bool} {n : Nat} (h : ∀ k j, k < n → j < n → e k j = e' k j) : ∀ f k, k < n → dp11 e n f k = dp11 e' n f k
  | 0, k, hk => rfl
  | f + 1, k, hk => by
    have hf : (List.range n).filter (e k) = (List.range n).filter (e' k) := List.filter_congr fun j hj => h k j hk (List.mem_range.1 hj)
    rw [dp11, dp11, hf]
    refine foldl_congr11 fun j hj => dp11_congr h f j (List.mem_range.1 (List.mem_filter.1 hj).1)
/-- Code that calls those. -/
def bc11 (l : List Nat) : List Ins := l.map fun j : Nat => ((30 : Int), ((j : Int), (0 : Int)))
/-- Whom the method k calls. -/
def ck11 (d : Md) (k : Nat) : List Nat := (List.range d.s.length).filter (e11 d k)
def mh0_11 : Mh := ⟨[], [], 0, false, 0, 0, 0⟩
def bare11 (d : Md) : Md := ⟨[], [], (List.range d.s.length).map fun k => (mh0_11, bc11 (ck11 d k)), -1⟩
theorem bare11_len (d : Md) : (bare11 d).s.length = d.s.length := by simp [bare11]
theorem ck11_len (d : Md) (k : Nat) : (ck11 d k).length ≤ d.s.length := by
  have := List.length_filter_le (e11 d k) (List.range d.s.length)
  rwa [List.length_range] at this
theorem ck11_mem {d : Md} {k j : Nat} : j ∈ ck11 d k ↔ j < d.s.length ∧ e11 d k j = true := by rw [ck11, List.mem_filter, List.mem_range]
theorem bare11_co {d : Md} {k : Nat} (hk : k < d.s.length) : co11 (bare11 d) k = bc11 (ck11 d k) := by
  rw [co11, bare11]
  simp [List.getElem?_map, List.getElem?_range, hk]
theorem bare11_e {d : Md} {k j : Nat} (hk : k < d.s.length) (hj : j < d.s.length) : e11 (bare11 d) k j = e11 d k j := by
  rw [e11, bare11_co hk, cl11, bc11, List.any_map, Bool.eq_iff_iff, List.any_eq_true]
  constructor
  · rintro ⟨i, hi, h⟩
    have h : i = j := by
      simp at h
      omega
    subst h
    exact (ck11_mem.1 hi).2
  · intro h
    exact ⟨j, ck11_mem.2 ⟨hj, h⟩, by simp⟩
theorem bare11_ba (d : Md) : ba11 (bare11 d) = false := by
  refine ba11_of fun k hk => ?_
  rw [bare11_len] at hk ⊢
  rw [bare11_co hk, bd11, List.any_eq_false]
  intro x hx
  obtain ⟨j, hj, rfl⟩ := List.mem_map.1 hx
  have := (ck11_mem.1 hj).1
  simp
  omega
theorem bare11_de {d : Md} (h : (ro11 d).2 = 0) : de11 (bare11 d) = de11 d := by
  obtain ⟨r, hr, -⟩ := ro11_rk h
  have hr' : Rk11 (e11 (bare11 d)) (bare11 d).s.length r := by
    rw [bare11_len]
    intro k j hk hj he
    rw [bare11_e hk hj] at he
    exact hr k j hk hj he
  obtain ⟨o, ho⟩ := or11_rk hr'
  have h2 : (ro11 (bare11 d)).2 = 0 := by rw [ro11, if_neg (by rw [bare11_ba]; decide), ho]
  rw [de11, de11, if_pos h, if_pos h2, bare11_len]
  congr 1
  refine List.map_congr_left fun k hk => ?_
  rw [dp11_congr (fun k j hk hj => bare11_e hk hj) _ _ (List.mem_range.1 hk)]
theorem bare11_bl {d : Md} (h : d.s.length ≤ 1000) : ∀ z ∈ (bare11 d).s, z.2.length ≤ 1000 := by
  intro z hz
  rw [bare11] at hz
  obtain ⟨k, _, rfl⟩ := List.mem_map.1 hz
  dsimp only
  rw [bc11, List.length_map]
  exact Nat.le_trans (ck11_len d k) h
/-- What Deep tells of a module without a round. -/
theorem de11_zero {d : Md} (h : (ro11 d).2 = 0) : ∃ dp : Nat → Nat, de11 d = (rw11 d.s.length fun t => (dp t : Int), 0) ∧ (∀ k, k < d.s.length → dp k = mx11 dp (ck11 d k) + 1) ∧ ∀ k, k < d.s.length → dp k ≤ d.s.length := by
  obtain ⟨r, hr, hrb⟩ := ro11_rk h
  refine ⟨dp11 (e11 d) d.s.length d.s.length, by rw [de11, if_pos h]; rfl, fun k hk => ?_, fun k hk => ?_⟩
  · rw [dp11_step hr hk hrb, mx11]
    exact foldl_mx11 _ _ 0
  · have h1 := dp11_le hr (f := d.s.length) hk
    have h2 := hrb k hk
    omega
theorem de11_two (d : Md) : (de11 d).2 = (ro11 d).2 := by
  rw [de11]
  split
  · rename_i h; exact h.symm
  · rfl
theorem de11_no {d : Md} (h : (ro11 d).2 ≠ 0) : (de11 d).1 = [] := by rw [de11, if_neg h]
theorem wh11_ck {d : Md} (h : (ro11 d).2 = 0) {k : Nat} (hk : k < d.s.length) : wh11 d k = (ns11 (ck11 d k), 0) := wh11_ok (ro11_ok h).1 hk
theorem qG_bs {d : Md} (h : qG d = false) : d.s.length ≤ 40 ∧ ∀ z ∈ d.s, z.2.length ≤ 1000 := by
  simp only [qG, Bool.or_eq_false_iff, decide_eq_false_iff_not, List.any_eq_false] at h
  refine ⟨by omega, fun z hz => ?_⟩
  have hh := h.2.2.2 _ hz
  simp only [qgE, gB, Bool.or_eq_true, decide_eq_true_eq, not_or] at hh
  omega
theorem rw11_get {n t : Nat} {f : Nat → Int} (ht : t < n) : (rw11 n f)[t]? = some (f t) := by
  rw [rw11, List.getElem?_map, List.getElem?_range ht]
  rfl
/-- A method's block, its code alone not empty. -/
def Xc11 (w : World) (b : Nat) (A : Option Addr) (n c : Nat) : Prop := w.heap[b]? = some (.cells #[.slice none 0 0, .slice none 0 0, .int .u8 0, .bool false, .int .i64 0, .int .i64 0, .int .i64 0, .slice A n c] 52 (0, 0))
section
variable {w w' : World} {b n c : Nat} {A : Option Addr}
theorem Xc11.lt (h : Xc11 w b A n c) : b < w.heap.size := (Array.getElem?_eq_some_iff.1 h).1
theorem Xc11.keep (h : Xc11 w b A n c) {B : Nat} (hb : Below B w w') (hB : b < B) : Xc11 w' b A n c := (hb.block b hB).trans h
theorem Xc11.set (h : Xc11 w b A n c) (A' : Option Addr) (n' c' : Nat) : Xc11 (w.setCell ⟨b, 7, none⟩ (.slice A' n' c')) b A' n' c' := heap_setCell_same w b 7 _ _ (.slice A' n' c') h
theorem Xc11.cells (h : Xc11 w b A n c) : w.cell? ⟨b, 0, none⟩ = some (.slice none 0 0) ∧ w.cell? ⟨b, 1, none⟩ = some (.slice none 0 0) ∧ w.cell? ⟨b, 2, none⟩ = some (.int .u8 0) ∧ w.cell? ⟨b, 3, none⟩ = some (.bool false) ∧ w.cell? ⟨b, 4, none⟩ = some (.int .i64 0) ∧ w.cell? ⟨b, 5, none⟩ = some (.int .i64 0) ∧ w.cell? ⟨b, 6, none⟩ = some (.int .i64 0) ∧ w.cell? ⟨b, 7, none⟩ = some (.slice A n c) ∧ ∀ j, w.frozen? ⟨b, j, none⟩ = false := by
  have h : w.heap[b]? = _ := h
  refine ⟨?_, ?_, ?_, ?_, ?_, ?_, ?_, ?_, fun j => ?_⟩ <;> simp [World.cell?, World.frozen?, h]
end
def mf11 (z : Cz) : Me := ⟨⟨none, 0, none, 0, z.1, z.2.2.length, z.2.1⟩, mh0_11, z.2.2⟩
/-- What lies in memory while methods are made: k of them, codes by F. -/
structure Yd11 (b1 : Nat) (F : Nat → List Ins) (w0 w : World) (k : Nat) (A : Option Addr) (c : Nat) (Cs : List Cz) : Prop where
  y1 : Yb11 w b1 A k c (-1)
  row : w.ownsRow (b1 + 1) 52 8 (.slice A k c) k (cem (Cs.map mf11))
  each : ∀ z ∈ Cs, w.ownsRow (b1 + 1) 54 3 (cv11 z) z.2.2.length (cei z.2.2)
  map : Cs.map (·.2.2) = (List.range k).map F
  be : Below b1 w0 w
  sz : b1 + 1 ≤ w.heap.size
section
variable {b1 k c : Nat} {F : Nat → List Ins} {w0 w w' w1 w2 : World} {A : Option Addr} {Cs : List Cz}
theorem Yd11.keep (h : Yd11 b1 F w0 w k A c Cs) (hb : Below w.heap.size w w') : Yd11 b1 F w0 w' k A c Cs :=
  ⟨h.y1.keep hb h.y1.lt, own_below h.row hb (Nat.le_refl _), fun z hz => own_below (h.each z hz) hb (Nat.le_refl _), h.map, h.be.trans (hb.mono (by have := h.sz; omega)), Nat.le_trans h.sz hb.size⟩
theorem Yd11.put (h : Yd11 b1 F w0 w k A c Cs) {z : Cz} (hz : w.ownsRow (b1 + 1) 54 3 (cv11 z) z.2.2.length (cei z.2.2)) (hzc : z.2.2 = F k) {ob : Obj} (hw1 : w1 = w.alloc ob) {A' : Option Addr} {c' : Nat}
    (ho : w2.ownsRow (b1 + 1) 52 8 (.slice A' (k + 1) c') (k + 1) (cem (Cs.map mf11 ++ [mf11 z]))) (hg : w1.grownBy w2 (Value.slice A k c).ownBlock) (hb : Below (b1 + 1) w1 w2) : Yd11 b1 F w0 (w2.setCell ⟨b1, 2, none⟩ (.slice A' (k + 1) c')) (k + 1) A' c' (Cs ++ [z]) := by
  subst hw1
  have h' := h.keep (new1 (a := ob))
  have hy1 : Yb11 w2 b1 A k c (-1) := h'.y1.keep hb (by omega)
  have hlow : (⟨b1, 2, none⟩ : Addr).block < b1 + 1 := show b1 < b1 + 1 by omega
  refine ⟨hy1.set _ _ _, ?_, fun y hy => ?_, ?_, ?_, ?_⟩
  · rw [List.map_append]
    exact ownsRow_setCell_below ho hlow _
  · refine ownsRow_setCell_below (own_grown ?_ h'.row (by decide) hg) hlow _
    rcases List.mem_append.1 hy with hy | hy
    · exact h'.each y hy
    · rw [List.mem_singleton.1 hy]
      exact hz.alloc ob
  · rw [List.map_append, h.map, List.range_succ, List.map_append]
    simp [hzc]
  · exact (h'.be.trans (hb.mono (by omega))).setCell (p := ⟨b1, 2, none⟩) (Nat.le_refl _) _
  · have h1 := hb.size
    have h2 := h'.sz
    simp
    omega
end
theorem bc11_ok {l : List Nat} (h : ∀ j ∈ l, j < 1000) : ∀ x ∈ bc11 l, InOk x := by
  intro x hx
  obtain ⟨n, hn, rfl⟩ := List.mem_map.1 hx
  have := h n hn
  unfold InOk
  dsimp only
  omega
theorem hq11_bare {d : Md} {b sn c : Nat} {w : World} {A : Option Addr} {Cs : List Cz} (hn : d.s.length = sn) (hs : sn ≤ 1000) (hrow : w.ownsRow b 52 8 (.slice A sn c) sn (cem (Cs.map mf11))) (heach : ∀ z ∈ Cs, w.ownsRow b 54 3 (cv11 z) z.2.2.length (cei z.2.2)) (hmap : Cs.map (·.2.2) = (List.range sn).map fun k => bc11 (ck11 d k)) : Hq w ⟨none, 0, none, 0, A, c, Cs.map mf11⟩ (bare11 d) := by
  have hms : ∀ z ∈ Cs, ∃ k, z.2.2 = bc11 (ck11 d k) := fun z hz => by
    have h1 : z.2.2 ∈ Cs.map (·.2.2) := List.mem_map_of_mem hz
    rw [hmap, List.mem_map] at h1
    obtain ⟨k, _, e⟩ := h1
    exact ⟨k, e.symm⟩
  refine ⟨Rv.none_ w, Rv.none_ w, (Rm.of_own hrow fun z hz => ?_).1, ?_, by unfold bare11; dsimp only; decide⟩
  · obtain ⟨y, hy, rfl⟩ := List.mem_map.1 hz
    obtain ⟨k, hk⟩ := hms y hy
    refine ⟨⟨Rd.none_ w, Rd.none_ w, by unfold Mh.nums mf11 mh0_11; dsimp only; decide⟩, (Ri.of_own (heach y hy) fun x hx => ?_).1, rfl⟩
    rw [hk] at hx
    exact bc11_ok (fun j hj => by have := (ck11_mem.1 hj).1; omega) x hx
  · have e1 : (Cs.map mf11).map ze = (Cs.map (·.2.2)).map fun k => (mh0_11, k) := by
      rw [List.map_map, List.map_map]
      rfl
    dsimp only
    rw [e1, hmap, List.map_map, bare11, hn]
    rfl
end Go.Proofs.Ytfbabbddiplgkaa
