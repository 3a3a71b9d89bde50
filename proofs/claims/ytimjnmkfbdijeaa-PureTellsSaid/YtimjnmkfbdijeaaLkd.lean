/-
  Kr, Ks: in one text.
-/
import Derived.Test.YtimjnmkfbdijeaaLkc
import Derived.Test.YtimjnmkfbdijeaaLeh
namespace Go.Proofs.Ytimjnmkfbdijeaa
open Go.RowKit
set_option maxRecDepth 100000
set_option linter.unusedSimpArgs false
set_option linter.unusedVariables false

/-- append of one method, as one step of a region that draws its order. -/
theorem step_append_rm13 {w : World} {ops : Array Oper} {o : Oper} {a : Act} {K : Act → World → Prop} {Q : Exit → Act → World → Prop} {E : Prop} (hgd : o.guard = none) (s x : Operand)
    (ho : o.op = .call { callee := .builtin .append, args := #[s, x], argTypes := #[23, 23] })
    (base : Nat) (v : Value) (n : Nat) (K0 : List Me) (hs : a.eval s = v) (hown : w.ownsRow base 52 8 v n (cem K0))
    (ad : Addr) (z : Me) (hx : a.eval x = .slice (some ad) 1 1) (hr : ∀ j u, (ce8 z)[j]? = some u → w.cell? (ad.add j) = some u) (hbytes : n + 1 ≤ 1000000) (hbase : base ≤ w.heap.size)
    (h : ∀ A' c' w', w'.ownsRow base 52 8 (.slice A' (n + 1) c') (n + 1) (cem (K0 ++ [z])) → w.grownBy w' v.ownBlock → Below base w w' → K (a.put o.dst (.slice A' (n + 1) c')) w') :
    if Region.wanted o (yielded ops a.tmps) = true then Oper.wp Try.prog o a w K Q else E := by
  have hw : Region.wanted o (yielded ops a.tmps) = true := by simp [Region.wanted, hgd]
  rw [if_pos hw]
  have hinfo := Try.infoM
  rw [Option.map_eq_some_iff] at hinfo
  obtain ⟨i, hi, hz⟩ := hinfo
  simp only [Prod.mk.injEq] at hz
  obtain ⟨hz0, hz1, hz2⟩ := hz
  have hbel : ∀ {w'}, w.grownBy w' v.ownBlock → Below base w w' := fun hg => (Below.refl _ _).grown hg hbase fun g hg' => (hown.lt g hg').1
  obtain ⟨v', w', hr', h2, h3, h4, h5⟩ := run_append_own_at (P := Try.prog) w base 23 o.type 52 i _ 8 104 Try.underlying23 hi hz0 hz1 hz2 rfl (by decide) v n (cem K0) hown ad 1 1 (ce8 z) (by rw [length_ce8]) hr (ce8_one z) (by unfold maxLen; omega) (by omega) hbase
  obtain ⟨A', c', rfl⟩ := own_form h2
  unfold Oper.wp execOp
  simp only [ho, resolve, invoke, builtin, Sem.run_bind, Sem.run_pure, Result.andThen_ok, List.map_toArray, List.map_cons, List.map_nil, hs, hx, hr']
  exact h A' c' w' (by rw [cem_append, cem_one]; exact h2) h3 (hbel h3)
/-- The instruction of the method k. -/
def in13 (last : Int) (k : Nat) : Ins := if k = 0 then (30, 1, 0) else if k = 1 then (5, 0, 0) else if 0 ≤ last then (30, last, 0) else (0, 0, 0)
def mh13 (b : Nat → Bool) (k : Nat) : Mh := ⟨[], [], 0, b k, 0, 0, 0⟩
/-- The law's module. -/
def th13 (b : Nat → Bool) (last : Int) : Md := ⟨[], [], (List.range 3).map fun k => (mh13 b k, [in13 last k]), -1⟩
def me13 (b : Nat → Bool) (last : Int) (cb : Nat → Nat) (k : Nat) : Me := ⟨⟨none, 0, none, 0, some ⟨cb k, 0, none⟩, 1, 1⟩, mh13 b k, [in13 last k]⟩
/-- What lies in memory while methods are made: k of them. -/
structure Yt13 (b0 b1 O : Nat) (cb : Nat → Nat) (b : Nat → Bool) (last : Int) (w0 w : World) (k : Nat) (A : Option Addr) (c : Nat) : Prop where
  y0 : Yb11 w b0 none 0 0 0
  y1 : Yb11 w b1 A k c (-1)
  row : w.ownsRow (b1 + 1) 52 8 (.slice A k c) k (cem ((List.range k).map (me13 b last cb)))
  out : w.ownsRow (b1 + 1) 50 1 (.slice (some ⟨O, 0, none⟩) 3 3) 3 ((List.range 3).map fun k => Value.slice (some ⟨cb k, 0, none⟩) 1 1)
  cod : ∀ k, k < 3 → w.ownsRow (b1 + 1) 57 3 (.slice (some ⟨cb k, 0, none⟩) 1 1) 1 (cei [in13 last k])
  be : Below b0 w0 w
  sz : b1 + 1 ≤ w.heap.size
section
variable {b0 b1 O k c : Nat} {cb : Nat → Nat} {b : Nat → Bool} {last : Int} {w0 w w' w1 w2 : World} {A : Option Addr}
theorem Yt13.keep (h : Yt13 b0 b1 O cb b last w0 w k A c) (h01 : b0 + 1 = b1) (hb : Below w.heap.size w w') : Yt13 b0 b1 O cb b last w0 w' k A c :=
  ⟨h.y0.keep hb h.y0.lt, h.y1.keep hb h.y1.lt, own_below h.row hb (Nat.le_refl _), own_below h.out hb (Nat.le_refl _), fun k hk => own_below (h.cod k hk) hb (Nat.le_refl _), h.be.trans (hb.mono (by have := h.sz; omega)), Nat.le_trans h.sz hb.size⟩
theorem Yt13.put (h : Yt13 b0 b1 O cb b last w0 w k A c) (h01 : b0 + 1 = b1) {A' : Option Addr} {c' : Nat}
    (ho : w2.ownsRow (b1 + 1) 52 8 (.slice A' (k + 1) c') (k + 1) (cem ((List.range k).map (me13 b last cb) ++ [me13 b last cb k]))) (hg : w.grownBy w2 (Value.slice A k c).ownBlock) (hb : Below (b1 + 1) w w2) : Yt13 b0 b1 O cb b last w0 (w2.setCell ⟨b1, 2, none⟩ (.slice A' (k + 1) c')) (k + 1) A' c' := by
  have hy0 : Yb11 w2 b0 none 0 0 0 := h.y0.keep hb (by omega)
  have hy1 : Yb11 w2 b1 A k c (-1) := h.y1.keep hb (by omega)
  have hlow : (⟨b1, 2, none⟩ : Addr).block < b1 + 1 := show b1 < b1 + 1 by omega
  refine ⟨(Below.heap_setCell w2 ⟨b1, 2, none⟩ _ b0 (show b0 ≠ b1 by omega)).trans hy0, hy1.set _ _ _, ?_, ownsRow_setCell_below (own_grown h.out h.row (by decide) hg) hlow _, fun k hk => ownsRow_setCell_below (own_grown (h.cod k hk) h.row (by decide) hg) hlow _, (h.be.trans (hb.mono (by omega))).setCell (p := ⟨b1, 2, none⟩) (show b0 ≤ b1 by omega) _, ?_⟩
  · rw [List.range_succ, List.map_append]
    exact ownsRow_setCell_below ho hlow _
  · have h1 := hb.size
    have h2 := h.sz
    simp
    omega
theorem Yt13.drew (h : Yt13 b0 b1 O cb b last w0 w k A c) : Yt13 b0 b1 O cb b last w0 w.drew k A c := ⟨h.y0, h.y1, h.row, h.out, h.cod, below_draws h.be 1, h.sz⟩
theorem Yt13.at_ (h : Yt13 b0 b1 O cb b last w0 w k A c) (hk : k < 3) : w.cell? ⟨b1, 2, none⟩ = some (.slice A k c) ∧ w.cell? ⟨O, k, none⟩ = some (.slice (some ⟨cb k, 0, none⟩) 1 1) := by
  refine ⟨h.y1.cells.2.2.1, ?_⟩
  rw [World.ownsRow.cellAt h.out k (by omega), List.getElem?_map, List.getElem?_range hk]
  rfl
theorem in13_ok (last : Int) (hl : -9223372036854775808 ≤ last ∧ last ≤ 9223372036854775807) (k : Nat) : InOk (in13 last k) := by
  unfold InOk in13
  split
  · decide
  · split
    · decide
    · split
      · dsimp only; omega
      · decide
theorem Yt13.fin (h : Yt13 b0 b1 O cb b last w0 w 3 A c) (h01 : b0 + 1 = b1) (hl : -9223372036854775808 ≤ last ∧ last ≤ 9223372036854775807) : Hq (put4 w b0 ⟨none, 0, none, 0, A, c, (List.range 3).map (me13 b last cb)⟩ (th13 b last)) ⟨none, 0, none, 0, A, c, (List.range 3).map (me13 b last cb)⟩ (th13 b last) ∧ Below b0 w0 (put4 w b0 ⟨none, 0, none, 0, A, c, (List.range 3).map (me13 b last cb)⟩ (th13 b last)) := by
  refine ⟨?_, put4_below h.be (Nat.le_refl _) _ _⟩
  have k6 := put4_ownN h.row (show b0 < b1 + 1 by omega) ⟨none, 0, none, 0, A, c, (List.range 3).map (me13 b last cb)⟩ (th13 b last)
  have k7 := fun k hk => put4_ownN (h.cod k hk) (show b0 < b1 + 1 by omega) ⟨none, 0, none, 0, A, c, (List.range 3).map (me13 b last cb)⟩ (th13 b last)
  generalize put4 w b0 ⟨none, 0, none, 0, A, c, (List.range 3).map (me13 b last cb)⟩ (th13 b last) = wf at k6 k7
  refine ⟨Rv.none_ _, Rv.none_ _, (Rm.of_own k6 (fun z hz => ?_)).1, ?_, by unfold th13; dsimp only; decide⟩
  · obtain ⟨k, hk, rfl⟩ := List.mem_map.1 hz
    refine ⟨⟨Rd.none_ _, Rd.none_ _, ?_⟩, (Ri.of_own (k7 k (List.mem_range.1 hk)) fun x hx => ?_).1, rfl⟩
    · unfold Mh.nums me13 mh13
      dsimp only
      decide
    · rw [List.mem_singleton.1 hx]
      exact in13_ok last hl k
  · rw [List.map_map]
    rfl
end
theorem own_lit13 (w : World) (t size n base : Nat) (cs : Array Value) (hb : base ≤ w.heap.size) (hn : n ≤ 1000) (hs : cs.size = n * size) : (w.alloc (.cells cs t)).ownsRow base t size (.slice (some ⟨w.heap.size, 0, none⟩) n n) n cs.toList :=
  World.ownsRow_lit w cs n hb (by unfold maxLen; omega) hs
def cb13n (b1 k : Nat) : Nat := b1 + 1 + k
def cb13p (b1 k : Nat) : Nat := if k = 2 then b1 + 1 + 1 + 1 + 1 + 1 else b1 + 1 + k
section
variable {b0 b1 : Nat} {b : Nat → Bool} {last : Int} {w w1 : World}
theorem yt13_rows (hs : w1.heap.size = b1 + 1) : ((((w1.alloc (.cells #[.int .u8 30, .int .i64 1, .int .i64 0] 57)).alloc (.cells #[.int .u8 5, .int .i64 0, .int .i64 0] 57)).alloc (.cells #[.int .u8 0, .int .i64 0, .int .i64 0] 57)).alloc (.cells #[.slice (some ⟨b1 + 1, 0, none⟩) 1 1, .slice (some ⟨b1 + 1 + 1, 0, none⟩) 1 1, .slice (some ⟨b1 + 1 + 1 + 1, 0, none⟩) 1 1] 50)).ownsRow (b1 + 1) 57 3 (.slice (some ⟨b1 + 1, 0, none⟩) 1 1) 1 (cei [(30, 1, 0)]) ∧ ((((w1.alloc (.cells #[.int .u8 30, .int .i64 1, .int .i64 0] 57)).alloc (.cells #[.int .u8 5, .int .i64 0, .int .i64 0] 57)).alloc (.cells #[.int .u8 0, .int .i64 0, .int .i64 0] 57)).alloc (.cells #[.slice (some ⟨b1 + 1, 0, none⟩) 1 1, .slice (some ⟨b1 + 1 + 1, 0, none⟩) 1 1, .slice (some ⟨b1 + 1 + 1 + 1, 0, none⟩) 1 1] 50)).ownsRow (b1 + 1) 57 3 (.slice (some ⟨b1 + 1 + 1, 0, none⟩) 1 1) 1 (cei [(5, 0, 0)]) ∧ ((((w1.alloc (.cells #[.int .u8 30, .int .i64 1, .int .i64 0] 57)).alloc (.cells #[.int .u8 5, .int .i64 0, .int .i64 0] 57)).alloc (.cells #[.int .u8 0, .int .i64 0, .int .i64 0] 57)).alloc (.cells #[.slice (some ⟨b1 + 1, 0, none⟩) 1 1, .slice (some ⟨b1 + 1 + 1, 0, none⟩) 1 1, .slice (some ⟨b1 + 1 + 1 + 1, 0, none⟩) 1 1] 50)).ownsRow (b1 + 1) 57 3 (.slice (some ⟨b1 + 1 + 1 + 1, 0, none⟩) 1 1) 1 (cei [(0, 0, 0)]) ∧
    ((((w1.alloc (.cells #[.int .u8 30, .int .i64 1, .int .i64 0] 57)).alloc (.cells #[.int .u8 5, .int .i64 0, .int .i64 0] 57)).alloc (.cells #[.int .u8 0, .int .i64 0, .int .i64 0] 57)).alloc (.cells #[.slice (some ⟨b1 + 1, 0, none⟩) 1 1, .slice (some ⟨b1 + 1 + 1, 0, none⟩) 1 1, .slice (some ⟨b1 + 1 + 1 + 1, 0, none⟩) 1 1] 50)).ownsRow (b1 + 1) 50 1 (.slice (some ⟨b1 + 1 + 1 + 1 + 1, 0, none⟩) 3 3) 3 [.slice (some ⟨b1 + 1, 0, none⟩) 1 1, .slice (some ⟨b1 + 1 + 1, 0, none⟩) 1 1, .slice (some ⟨b1 + 1 + 1 + 1, 0, none⟩) 1 1] ∧ ((((w1.alloc (.cells #[.int .u8 30, .int .i64 1, .int .i64 0] 57)).alloc (.cells #[.int .u8 5, .int .i64 0, .int .i64 0] 57)).alloc (.cells #[.int .u8 0, .int .i64 0, .int .i64 0] 57)).alloc (.cells #[.slice (some ⟨b1 + 1, 0, none⟩) 1 1, .slice (some ⟨b1 + 1 + 1, 0, none⟩) 1 1, .slice (some ⟨b1 + 1 + 1 + 1, 0, none⟩) 1 1] 50)).heap.size = b1 + 1 + 1 + 1 + 1 + 1 ∧ Below w1.heap.size w1 ((((w1.alloc (.cells #[.int .u8 30, .int .i64 1, .int .i64 0] 57)).alloc (.cells #[.int .u8 5, .int .i64 0, .int .i64 0] 57)).alloc (.cells #[.int .u8 0, .int .i64 0, .int .i64 0] 57)).alloc (.cells #[.slice (some ⟨b1 + 1, 0, none⟩) 1 1, .slice (some ⟨b1 + 1 + 1, 0, none⟩) 1 1, .slice (some ⟨b1 + 1 + 1 + 1, 0, none⟩) 1 1] 50)) := by
  have k0 := own_lit13 w1 57 3 1 (b1 + 1) #[.int .u8 30, .int .i64 1, .int .i64 0] (by omega) (by omega) rfl
  have k1 := own_lit13 (w1.alloc (.cells #[.int .u8 30, .int .i64 1, .int .i64 0] 57)) 57 3 1 (b1 + 1) #[.int .u8 5, .int .i64 0, .int .i64 0] (by rw [size1]; omega) (by omega) rfl
  have k2 := own_lit13 ((w1.alloc (.cells #[.int .u8 30, .int .i64 1, .int .i64 0] 57)).alloc (.cells #[.int .u8 5, .int .i64 0, .int .i64 0] 57)) 57 3 1 (b1 + 1) #[.int .u8 0, .int .i64 0, .int .i64 0] (by rw [size1, size1]; omega) (by omega) rfl
  have k3 := own_lit13 (((w1.alloc (.cells #[.int .u8 30, .int .i64 1, .int .i64 0] 57)).alloc (.cells #[.int .u8 5, .int .i64 0, .int .i64 0] 57)).alloc (.cells #[.int .u8 0, .int .i64 0, .int .i64 0] 57)) 50 1 3 (b1 + 1) #[.slice (some ⟨b1 + 1, 0, none⟩) 1 1, .slice (some ⟨b1 + 1 + 1, 0, none⟩) 1 1, .slice (some ⟨b1 + 1 + 1 + 1, 0, none⟩) 1 1] (by rw [size1, size1, size1]; omega) (by omega) rfl
  simp only [size1, hs] at k0 k1 k2 k3
  refine ⟨((k0.alloc _).alloc _).alloc _, (k1.alloc _).alloc _, k2.alloc _, k3, by rw [size1, size1, size1, size1, hs], ?_⟩
  exact ((new1.alloc (by rw [size1]; omega) _).alloc (by rw [size1, size1]; omega) _).alloc (by rw [size1, size1, size1]; omega) _
theorem yt13_neg (h0 : Yb11 w1 b0 none 0 0 0) (h1 : Yb11 w1 b1 none 0 0 (-1)) (hb : Below b0 w w1) (hs : w1.heap.size = b1 + 1) (h01 : b0 + 1 = b1) (hl : last < 0) : Yt13 b0 b1 (b1 + 1 + 1 + 1 + 1) (cb13n b1) b last w ((((w1.alloc (.cells #[.int .u8 30, .int .i64 1, .int .i64 0] 57)).alloc (.cells #[.int .u8 5, .int .i64 0, .int .i64 0] 57)).alloc (.cells #[.int .u8 0, .int .i64 0, .int .i64 0] 57)).alloc (.cells #[.slice (some ⟨b1 + 1, 0, none⟩) 1 1, .slice (some ⟨b1 + 1 + 1, 0, none⟩) 1 1, .slice (some ⟨b1 + 1 + 1 + 1, 0, none⟩) 1 1] 50)) 0 none 0 := by
  obtain ⟨k0, k1, k2, k3, k4, k5⟩ := yt13_rows (w1 := w1) hs
  refine ⟨h0.keep k5 (by omega), h1.keep k5 (by omega), World.ownsRow_nil _ _ _ _, k3, fun k hk => ?_, hb.trans (k5.mono (by omega)), by rw [k4]; omega⟩
  match k, hk with
  | 0, _ => exact k0
  | 1, _ => exact k1
  | 2, _ =>
    have e : in13 last 2 = (0, 0, 0) := by simp [in13]; omega
    rw [e]
    exact k2
theorem yt13_pos (h0 : Yb11 w1 b0 none 0 0 0) (h1 : Yb11 w1 b1 none 0 0 (-1)) (hb : Below b0 w w1) (hs : w1.heap.size = b1 + 1) (h01 : b0 + 1 = b1) (hl : 0 ≤ last) : Yt13 b0 b1 (b1 + 1 + 1 + 1 + 1) (cb13p b1) b last w ((((((w1.alloc (.cells #[.int .u8 30, .int .i64 1, .int .i64 0] 57)).alloc (.cells #[.int .u8 5, .int .i64 0, .int .i64 0] 57)).alloc (.cells #[.int .u8 0, .int .i64 0, .int .i64 0] 57)).alloc (.cells #[.slice (some ⟨b1 + 1, 0, none⟩) 1 1, .slice (some ⟨b1 + 1 + 1, 0, none⟩) 1 1, .slice (some ⟨b1 + 1 + 1 + 1, 0, none⟩) 1 1] 50)).alloc (.cells #[.int .u8 30, .int .i64 last, .int .i64 0] 57)).setCell ⟨b1 + 1 + 1 + 1 + 1, 2, none⟩ (.slice (some ⟨b1 + 1 + 1 + 1 + 1 + 1, 0, none⟩) 1 1)) 0 none 0 := by
  obtain ⟨k0, k1, k2, k3, k4, k5⟩ := yt13_rows (w1 := w1) hs
  have k6 := own_lit13 ((((w1.alloc (.cells #[.int .u8 30, .int .i64 1, .int .i64 0] 57)).alloc (.cells #[.int .u8 5, .int .i64 0, .int .i64 0] 57)).alloc (.cells #[.int .u8 0, .int .i64 0, .int .i64 0] 57)).alloc (.cells #[.slice (some ⟨b1 + 1, 0, none⟩) 1 1, .slice (some ⟨b1 + 1 + 1, 0, none⟩) 1 1, .slice (some ⟨b1 + 1 + 1 + 1, 0, none⟩) 1 1] 50)) 57 3 1 (b1 + 1) #[.int .u8 30, .int .i64 last, .int .i64 0] (by rw [k4]; omega) (by omega) rfl
  rw [k4] at k6
  have k7 : Below w1.heap.size w1 (((((w1.alloc (.cells #[.int .u8 30, .int .i64 1, .int .i64 0] 57)).alloc (.cells #[.int .u8 5, .int .i64 0, .int .i64 0] 57)).alloc (.cells #[.int .u8 0, .int .i64 0, .int .i64 0] 57)).alloc (.cells #[.slice (some ⟨b1 + 1, 0, none⟩) 1 1, .slice (some ⟨b1 + 1 + 1, 0, none⟩) 1 1, .slice (some ⟨b1 + 1 + 1 + 1, 0, none⟩) 1 1] 50)).alloc (.cells #[.int .u8 30, .int .i64 last, .int .i64 0] 57)) := k5.alloc (by rw [k4, hs]; omega) _
  have hbk := own_bk11 (k3.alloc (.cells #[.int .u8 30, .int .i64 last, .int .i64 0] 57))
  have k8 := (k3.alloc (.cells #[.int .u8 30, .int .i64 last, .int .i64 0] 57)).stored 2 (.slice (some ⟨b1 + 1 + 1 + 1 + 1 + 1, 0, none⟩) 1 1)
  have k9 : Below (b1 + 1) w1 ((((((w1.alloc (.cells #[.int .u8 30, .int .i64 1, .int .i64 0] 57)).alloc (.cells #[.int .u8 5, .int .i64 0, .int .i64 0] 57)).alloc (.cells #[.int .u8 0, .int .i64 0, .int .i64 0] 57)).alloc (.cells #[.slice (some ⟨b1 + 1, 0, none⟩) 1 1, .slice (some ⟨b1 + 1 + 1, 0, none⟩) 1 1, .slice (some ⟨b1 + 1 + 1 + 1, 0, none⟩) 1 1] 50)).alloc (.cells #[.int .u8 30, .int .i64 last, .int .i64 0] 57)).setCell ⟨b1 + 1 + 1 + 1 + 1, 2, none⟩ (.slice (some ⟨b1 + 1 + 1 + 1 + 1 + 1, 0, none⟩) 1 1)) := (k7.mono (show b1 + 1 ≤ w1.heap.size by omega)).setCell (p := ⟨b1 + 1 + 1 + 1 + 1, 2, none⟩) (show b1 + 1 ≤ b1 + 1 + 1 + 1 + 1 by omega) _
  refine ⟨h0.keep k9 (by omega), h1.keep k9 (by omega), World.ownsRow_nil _ _ _ _, k8.1, fun k hk => ?_, hb.trans (k9.mono (by omega)), by have := k9.size; omega⟩
  match k, hk with
  | 0, _ => exact own_tag (k0.alloc _) hbk (by decide) _ _
  | 1, _ => exact own_tag (k1.alloc _) hbk (by decide) _ _
  | 2, _ =>
    have e : in13 last 2 = (30, last, 0) := by simp [in13]; omega
    rw [e]
    exact own_tag k6 hbk (by decide) _ _
end
set_option maxHeartbeats 8000000 in
theorem three13_v (r last : Int) (b : Nat → Bool) (w : World) (hr : ∀ k : Nat, k < 3 → (bits BinOp.and IntKind.u8 (r / 2 ^ k) 1 == 1) = b k) (hl : -9223372036854775808 ≤ last ∧ last ≤ 9223372036854775807) : Calls Try.prog 38 #[.int .u8 r, .int .i64 last] w fun e w' => ∃ y, e = .returned (dv y (th13 b last)) ∧ Hq w' y (th13 b last) ∧ Below w.heap.size w w' := by
  have HR := Lib.hid hr
  have HL := Lib.hid hl
  clear hr hl
  go_enter Try.func38, Try.ntmps38
  go_upto_region 2 with (fail)
  obtain ⟨b0, hb0⟩ : ∃ b0, w.heap.size = b0 := ⟨_, rfl⟩
  obtain ⟨b1, hb1⟩ : ∃ b1, b0 + 1 = b1 := ⟨_, rfl⟩
  have HY0 : Hid (Yb11 ((w.alloc (.cells #[.slice none 0 0, .slice none 0 0, .slice none 0 0, .int .i64 0] 25)).alloc (.cells #[.slice none 0 0, .slice none 0 0, .slice none 0 0, .int .i64 (-1)] 25)) b0 none 0 0 0) := Lib.hid (by
    have : Yb11 (w.alloc (.cells #[.slice none 0 0, .slice none 0 0, .slice none 0 0, .int .i64 0] 25)) b0 none 0 0 0 := by rw [← hb0]; exact World.alloc_heap_new w _
    exact (Below.heap_alloc _ _ _ this.lt).trans this)
  have HY1 : Hid (Yb11 ((w.alloc (.cells #[.slice none 0 0, .slice none 0 0, .slice none 0 0, .int .i64 0] 25)).alloc (.cells #[.slice none 0 0, .slice none 0 0, .slice none 0 0, .int .i64 (-1)] 25)) b1 none 0 0 (-1)) := Lib.hid (by
    have := World.alloc_heap_new (w.alloc (.cells #[.slice none 0 0, .slice none 0 0, .slice none 0 0, .int .i64 0] 25)) (.cells #[.slice none 0 0, .slice none 0 0, .slice none 0 0, .int .i64 (-1)] 25)
    rw [size1, hb0, hb1] at this
    exact this)
  have HB0 : Hid (Below b0 w ((w.alloc (.cells #[.slice none 0 0, .slice none 0 0, .slice none 0 0, .int .i64 0] 25)).alloc (.cells #[.slice none 0 0, .slice none 0 0, .slice none 0 0, .int .i64 (-1)] 25))) := Lib.hid (((Below.refl b0 w).alloc (by omega) _).alloc (by rw [size1]; omega) _)
  have hs0 : ((w.alloc (.cells #[.slice none 0 0, .slice none 0 0, .slice none 0 0, .int .i64 0] 25)).alloc (.cells #[.slice none 0 0, .slice none 0 0, .slice none 0 0, .int .i64 (-1)] 25)).heap.size = b1 + 1 := by rw [size1, size1]; omega
  have HBB := Lib.hid hb0
  have HBC := Lib.hid hb1
  rw [hb0, hb1]
  generalize ((w.alloc (.cells #[.slice none 0 0, .slice none 0 0, .slice none 0 0, .int .i64 0] 25)).alloc (.cells #[.slice none 0 0, .slice none 0 0, .slice none 0 0, .int .i64 (-1)] 25)) = w1 at HY0 HY1 HB0 hs0 ⊢
  clear hb0 hb1
  go_upto_region 3 with (fail)
  by_cases hl : last < 0
  · have HYT := Lib.hid (yt13_neg (b := b) (w := w) HY0.out HY1.out HB0.out hs0 HBC.out hl)
    generalize ((((w1.alloc (.cells #[.int .u8 30, .int .i64 1, .int .i64 0] 57)).alloc (.cells #[.int .u8 5, .int .i64 0, .int .i64 0] 57)).alloc (.cells #[.int .u8 0, .int .i64 0, .int .i64 0] 57)).alloc (.cells #[.slice (some ⟨b1 + 1, 0, none⟩) 1 1, .slice (some ⟨b1 + 1 + 1, 0, none⟩) 1 1, .slice (some ⟨b1 + 1 + 1 + 1, 0, none⟩) 1 1] 50)) = w4 at HYT ⊢
    clear HY0 HY1 HB0 hs0
    go_wp2_with fail
    go_loopw [7] (fun iv wr => ∃ (k : Nat) (A1 : Option Addr) (c1 : Nat), k ≤ 3 ∧ iv = .int .i64 k ∧ Hid (Yt13 b0 b1 (b1 + 1 + 1 + 1 + 1) (cb13n b1) b last w wr k A1 c1)) (fun iv _ => 3 - (intOf iv).toNat)
    case atStart => exact ⟨0, none, 0, by omega, rfl, HYT⟩
    case round =>
      clear HYT
      obtain ⟨k, A1, c1, hk, rfl, HYK⟩ := hrel
      rename World => wr
      by_cases h1 : k < 3
      · have hat := HYK.out.at_ h1
        obtain ⟨p, hp⟩ : ∃ p, (cb13n b1) k = p := ⟨_, rfl⟩
        rw [hp] at hat
        have HAT := Lib.hid hat
        have HP := Lib.hid hp
        obtain ⟨v, hv⟩ : ∃ v, b k = v := ⟨_, rfl⟩
        have eb := HR.out k h1
        rw [hv] at eb
        have HV := Lib.hid hv
        clear hat hp hv
        go_upto_region 8 with (fail)
        refine wp_region_L [15] (S := fun w' => w'.cell? ⟨b1, 2, none⟩ = some (.slice A1 k c1) ∧ w'.cell? ⟨b1 + 1 + 1 + 1 + 1, k, none⟩ = some (.slice (some ⟨p, 0, none⟩) 1 1)) (by kernel_rfl) (⟨HAT.out.1, HAT.out.2⟩) (fun hHeld => ?_)
        have HYD := Lib.hid HYK.out.drew
        generalize wr.drew = wd at hHeld HYD ⊢
        refine wpL_reckon (i := 0) (v := ?_) rfl (by kernel_rfl) (fun _ _ _ h => h) (Or.inl ⟨by rfl, ?_⟩) (Or.inr (by assumption)) ?_
        rotate_left 1
        · intro w _; go_simp; try with_reducible rfl
        try simp only [Act.put, List.getElem_toArray, List.getElem_cons_zero, List.getElem_cons_succ, List.setIfInBounds_toArray, List.set_cons_zero, List.set_cons_succ]
        refine wpL_take (i := 1) (v := ?_) rfl (by kernel_rfl) (fun _ _ _ h => h) (Or.inl ⟨by rfl, ?_⟩) (by assumption) ?_
        rotate_left 1
        · intro w hSw; (try dsimp only at hSw); obtain ⟨s0, s1⟩ := hSw; go_simp; try with_reducible rfl
        try simp only [Act.put, List.getElem_toArray, List.getElem_cons_zero, List.getElem_cons_succ, List.setIfInBounds_toArray, List.set_cons_zero, List.set_cons_succ]
        refine wpL_reckon (i := 2) (v := ?_) rfl (by kernel_rfl) (fun _ _ _ h => h) (Or.inl ⟨by rfl, ?_⟩) (Or.inr (by assumption)) ?_
        rotate_left 1
        · intro w _; go_simp; try with_reducible rfl
        try simp only [Act.put, List.getElem_toArray, List.getElem_cons_zero, List.getElem_cons_succ, List.setIfInBounds_toArray, List.set_cons_zero, List.set_cons_succ]
        refine wpL_reckon (i := 3) (v := ?_) rfl (by kernel_rfl) (fun _ _ _ h => h) (Or.inl ⟨by rfl, ?_⟩) (Or.inr (by assumption)) ?_
        rotate_left 1
        · intro w _; go_simp; try with_reducible rfl
        try simp only [Act.put, List.getElem_toArray, List.getElem_cons_zero, List.getElem_cons_succ, List.setIfInBounds_toArray, List.set_cons_zero, List.set_cons_succ]
        refine wpL_reckon (i := 4) (v := ?_) rfl (by kernel_rfl) (fun _ _ _ h => h) (Or.inl ⟨by rfl, ?_⟩) (Or.inr (by assumption)) ?_
        rotate_left 1
        · intro w _; go_simp; try with_reducible rfl
        try simp only [Act.put, List.getElem_toArray, List.getElem_cons_zero, List.getElem_cons_succ, List.setIfInBounds_toArray, List.set_cons_zero, List.set_cons_succ]
        refine wpL_reckon (i := 5) (v := ?_) rfl (by kernel_rfl) (fun _ _ _ h => h) (Or.inl ⟨by rfl, ?_⟩) (Or.inr (by assumption)) ?_
        rotate_left 1
        · intro w _; go_simp; try with_reducible rfl
        try simp only [Act.put, List.getElem_toArray, List.getElem_cons_zero, List.getElem_cons_succ, List.setIfInBounds_toArray, List.set_cons_zero, List.set_cons_succ]
        refine wpL_reckon (i := 6) (v := ?_) rfl (by kernel_rfl) (fun _ _ _ h => h) (Or.inl ⟨by rfl, ?_⟩) (Or.inr (by assumption)) ?_
        rotate_left 1
        · intro w _; go_simp; try with_reducible rfl
        try simp only [Act.put, List.getElem_toArray, List.getElem_cons_zero, List.getElem_cons_succ, List.setIfInBounds_toArray, List.set_cons_zero, List.set_cons_succ]
        refine wpL_reckon (i := 7) (v := ?_) rfl (by kernel_rfl) (fun _ _ _ h => h) (Or.inl ⟨by rfl, ?_⟩) (Or.inr (by assumption)) ?_
        rotate_left 1
        · intro w _; go_simp; try with_reducible rfl
        try simp only [Act.put, List.getElem_toArray, List.getElem_cons_zero, List.getElem_cons_succ, List.setIfInBounds_toArray, List.set_cons_zero, List.set_cons_succ]
        refine wpL_reckon (i := 8) (v := ?_) rfl (by kernel_rfl) (fun _ _ _ h => h) (Or.inl ⟨by rfl, ?_⟩) (Or.inr (by assumption)) ?_
        rotate_left 1
        · intro w _; go_simp; try with_reducible rfl
        try simp only [Act.put, List.getElem_toArray, List.getElem_cons_zero, List.getElem_cons_succ, List.setIfInBounds_toArray, List.set_cons_zero, List.set_cons_succ]
        refine wpL_reckon (i := 9) (v := ?_) rfl (by kernel_rfl) (fun _ _ _ h => h) (Or.inl ⟨by rfl, ?_⟩) (Or.inr (by assumption)) ?_
        rotate_left 1
        · intro w _; go_simp; try with_reducible rfl
        try simp only [Act.put, List.getElem_toArray, List.getElem_cons_zero, List.getElem_cons_succ, List.setIfInBounds_toArray, List.set_cons_zero, List.set_cons_succ]
        refine wpL_take (i := 10) (v := ?_) rfl (by kernel_rfl) (fun _ _ _ h => h) (Or.inl ⟨by rfl, ?_⟩) (by assumption) ?_
        rotate_left 1
        · intro w hSw; (try dsimp only at hSw); obtain ⟨s0, s1⟩ := hSw; go_simp; try with_reducible rfl
        try simp only [Act.put, List.getElem_toArray, List.getElem_cons_zero, List.getElem_cons_succ, List.setIfInBounds_toArray, List.set_cons_zero, List.set_cons_succ]
        refine wpL_reckon (i := 11) (v := ?_) rfl (by kernel_rfl) (fun _ _ _ h => h) (Or.inl ⟨by rfl, ?_⟩) (Or.inr (by assumption)) ?_
        rotate_left 1
        · intro w _; go_simp; try with_reducible rfl
        try simp only [Act.put, List.getElem_toArray, List.getElem_cons_zero, List.getElem_cons_succ, List.setIfInBounds_toArray, List.set_cons_zero, List.set_cons_succ]
        refine wpL_ready (rs := [12]) (by kernel_rfl) (by simp) ?_
        refine AllL.cons rfl (fun K hK => ?_) AllL.nil
        go_simp
        have HY1 := Lib.hid (HYD.out.keep HBC.out (new1 (w := wd) (a := .cells #[.slice none 0 0, .slice none 0 0, .int .u8 0, .bool v, .int .i64 0, .int .i64 0, .int .i64 0, .slice (some ⟨p, 0, none⟩) 1 1] 52)))
        have HCE : Hid (∀ j u, (ce8 (me13 b last (cb13n b1) k))[j]? = some u → (wd.alloc (.cells #[.slice none 0 0, .slice none 0 0, .int .u8 0, .bool v, .int .i64 0, .int .i64 0, .int .i64 0, .slice (some ⟨p, 0, none⟩) 1 1] 52)).cell? ((⟨wd.heap.size, 0, none⟩ : Addr).add j) = some u) := Lib.hid (ce8_cells11 wd (me13 b last (cb13n b1) k) _ (by rw [← HV.out, ← HP.out]; rfl) _)
        have hs1 : b1 + 1 ≤ (wd.alloc (.cells #[.slice none 0 0, .slice none 0 0, .int .u8 0, .bool v, .int .i64 0, .int .i64 0, .int .i64 0, .slice (some ⟨p, 0, none⟩) 1 1] 52)).heap.size := HY1.out.sz
        generalize wd.alloc (.cells #[.slice none 0 0, .slice none 0 0, .int .u8 0, .bool v, .int .i64 0, .int .i64 0, .int .i64 0, .slice (some ⟨p, 0, none⟩) 1 1] 52) = we at HY1 HCE hs1 ⊢
        have HA1 := HY1.out.at_ h1
        rw [HP.out] at HA1
        have HG9 := HY1.out.row
        refine hK.out _ _ (⟨HA1.1, HA1.2⟩) (fun hHeld => ?_)
        clear hK K
        try simp only [Act.put, List.getElem_toArray, List.getElem_cons_zero, List.getElem_cons_succ, List.setIfInBounds_toArray, List.set_cons_zero, List.set_cons_succ]
        refine wpL_ready (rs := [13]) (by kernel_rfl) (by simp) ?_
        refine AllL.cons rfl (fun K hK => ?_) AllL.nil
        refine step_append_rm13 rfl (.tmp 28) (.tmp 39) rfl (b1 + 1) _ k ((List.range k).map (me13 b last (cb13n b1))) rfl HG9 _ (me13 b last (cb13n b1) k) rfl HCE.out (by omega) hs1 ?_
        intro A9 c9 w9 ho9 hg9 hb9
        have HYP := Lib.hid (HY1.out.put HBC.out ho9 hg9 hb9)
        have z9 := World.ownsRow.cellAt (own_grown HY1.out.out HY1.out.row (by decide) hg9) k (by omega)
        rw [List.getElem?_map, List.getElem?_range h1] at z9
        have z9 : w9.cell? ⟨b1 + 1 + 1 + 1 + 1, k, none⟩ = some (.slice (some ⟨p, 0, none⟩) 1 1) := z9.trans (by rw [← HP.out]; rfl)
        have y9 := (HY1.out.y1.keep hb9 (by omega)).cells
        have y92 := y9.2.2.1
        have y9f := y9.2.2.2.2 2
        have y9l := (HY1.out.y1.keep hb9 (by omega)).lt
        clear y9 ho9 hg9 hb9 HG9
        refine hK.out _ _ (⟨y92, z9⟩) (fun hHeld => ?_)
        clear hK K
        try simp only [Act.put, List.getElem_toArray, List.getElem_cons_zero, List.getElem_cons_succ, List.setIfInBounds_toArray, List.set_cons_zero, List.set_cons_succ]
        refine wpL_reckon (i := 14) (v := ?_) rfl (by kernel_rfl) (fun _ _ _ h => h) (Or.inl ⟨by rfl, ?_⟩) (Or.inr (by assumption)) ?_
        rotate_left 1
        · intro w _; go_simp; try with_reducible rfl
        try simp only [Act.put, List.getElem_toArray, List.getElem_cons_zero, List.getElem_cons_succ, List.setIfInBounds_toArray, List.set_cons_zero, List.set_cons_succ]
        refine wpL_ready (rs := [15]) (by kernel_rfl) (by simp) ?_
        refine AllL.late rfl (by kernel_rfl) (fun K hK => ?_) AllL.nil
        go_simp
        refine hK.out _ _ ?_
        clear hK K
        try simp only [Act.put, List.getElem_toArray, List.getElem_cons_zero, List.getElem_cons_succ, List.setIfInBounds_toArray, List.set_cons_zero, List.set_cons_succ]
        refine wpL_done (by kernel_rfl) ?_ _
        go_wp2_with fail
        go_roundw
        case rel => exact ⟨k + 1, A9, c9, by omega, by go_num, HYP⟩
        case measure => simp [intOf]; omega
      · obtain rfl : k = 3 := by omega
        have HF := Lib.hid (HYK.out.fin HBC.out HL.out)
        obtain ⟨p0, p1, p2, p3, pf⟩ := HYK.out.y0.cells
        obtain ⟨q0, q1, q2, q3, -⟩ := HYK.out.y1.cells
        have pf0 := pf 0
        have pf1 := pf 1
        have pf2 := pf 2
        have pf3 := pf 3
        have p0l := HYK.out.y0.lt
        clear pf
        go_wp2_with fail
        exact bodyPost_ret (v := .agg #[.slice none 0 0, .slice none 0 0, .slice A1 3 c1, .int .i64 (-1)]) (by simp [results, Try.results38, go_sem, p0, p1, p2, p3]) rfl ⟨_, rfl, HF.out.1, by rw [HBB.out]; exact HF.out.2⟩
  · have hl2 : 0 ≤ last := by omega
    have HYT := Lib.hid (yt13_pos (b := b) (w := w) HY0.out HY1.out HB0.out hs0 HBC.out hl2)
    have hcell : ∃ u, (((((w1.alloc (.cells #[.int .u8 30, .int .i64 1, .int .i64 0] 57)).alloc (.cells #[.int .u8 5, .int .i64 0, .int .i64 0] 57)).alloc (.cells #[.int .u8 0, .int .i64 0, .int .i64 0] 57)).alloc (.cells #[.slice (some ⟨b1 + 1, 0, none⟩) 1 1, .slice (some ⟨b1 + 1 + 1, 0, none⟩) 1 1, .slice (some ⟨b1 + 1 + 1 + 1, 0, none⟩) 1 1] 50)).alloc (.cells #[.int .u8 30, .int .i64 last, .int .i64 0] 57)).cell? ⟨b1 + 1 + 1 + 1 + 1, 2, none⟩ = some u := ⟨.slice (some ⟨b1 + 1 + 1 + 1, 0, none⟩) 1 1, World.ownsRow.cellAt ((yt13_rows (w1 := w1) hs0).2.2.2.1.alloc (.cells #[.int .u8 30, .int .i64 last, .int .i64 0] 57)) 2 (by omega)⟩
    obtain ⟨u, hcell⟩ := hcell
    have hfz := World.ownsRow.frozenAt ((yt13_rows (w1 := w1) hs0).2.2.2.1.alloc (.cells #[.int .u8 30, .int .i64 last, .int .i64 0] 57)) 2
    have hsz := (yt13_rows (w1 := w1) hs0).2.2.2.2.1
    generalize ((((w1.alloc (.cells #[.int .u8 30, .int .i64 1, .int .i64 0] 57)).alloc (.cells #[.int .u8 5, .int .i64 0, .int .i64 0] 57)).alloc (.cells #[.int .u8 0, .int .i64 0, .int .i64 0] 57)).alloc (.cells #[.slice (some ⟨b1 + 1, 0, none⟩) 1 1, .slice (some ⟨b1 + 1 + 1, 0, none⟩) 1 1, .slice (some ⟨b1 + 1 + 1 + 1, 0, none⟩) 1 1] 50)) = w3 at HYT hcell hfz hsz ⊢
    rw [World.setCell_alloc_past _ _ _ _ (by omega)] at HYT
    clear HY0 HY1 HB0 hs0
    go_wp2_with fail
    generalize (w3.setCell ⟨b1 + 1 + 1 + 1 + 1, 2, none⟩ (.slice (some ⟨b1 + 1 + 1 + 1 + 1 + 1, 0, none⟩) 1 1)).alloc (.cells #[.int .u8 30, .int .i64 last, .int .i64 0] 57) = w4 at HYT ⊢
    clear hcell hfz hsz
    go_loopw [7] (fun iv wr => ∃ (k : Nat) (A1 : Option Addr) (c1 : Nat), k ≤ 3 ∧ iv = .int .i64 k ∧ Hid (Yt13 b0 b1 (b1 + 1 + 1 + 1 + 1) (cb13p b1) b last w wr k A1 c1)) (fun iv _ => 3 - (intOf iv).toNat)
    case atStart => exact ⟨0, none, 0, by omega, rfl, HYT⟩
    case round =>
      clear HYT
      obtain ⟨k, A1, c1, hk, rfl, HYK⟩ := hrel
      rename World => wr
      by_cases h1 : k < 3
      · have hat := HYK.out.at_ h1
        obtain ⟨p, hp⟩ : ∃ p, (cb13p b1) k = p := ⟨_, rfl⟩
        rw [hp] at hat
        have HAT := Lib.hid hat
        have HP := Lib.hid hp
        obtain ⟨v, hv⟩ : ∃ v, b k = v := ⟨_, rfl⟩
        have eb := HR.out k h1
        rw [hv] at eb
        have HV := Lib.hid hv
        clear hat hp hv
        go_upto_region 8 with (fail)
        refine wp_region_L [15] (S := fun w' => w'.cell? ⟨b1, 2, none⟩ = some (.slice A1 k c1) ∧ w'.cell? ⟨b1 + 1 + 1 + 1 + 1, k, none⟩ = some (.slice (some ⟨p, 0, none⟩) 1 1)) (by kernel_rfl) (⟨HAT.out.1, HAT.out.2⟩) (fun hHeld => ?_)
        have HYD := Lib.hid HYK.out.drew
        generalize wr.drew = wd at hHeld HYD ⊢
        refine wpL_reckon (i := 0) (v := ?_) rfl (by kernel_rfl) (fun _ _ _ h => h) (Or.inl ⟨by rfl, ?_⟩) (Or.inr (by assumption)) ?_
        rotate_left 1
        · intro w _; go_simp; try with_reducible rfl
        try simp only [Act.put, List.getElem_toArray, List.getElem_cons_zero, List.getElem_cons_succ, List.setIfInBounds_toArray, List.set_cons_zero, List.set_cons_succ]
        refine wpL_take (i := 1) (v := ?_) rfl (by kernel_rfl) (fun _ _ _ h => h) (Or.inl ⟨by rfl, ?_⟩) (by assumption) ?_
        rotate_left 1
        · intro w hSw; (try dsimp only at hSw); obtain ⟨s0, s1⟩ := hSw; go_simp; try with_reducible rfl
        try simp only [Act.put, List.getElem_toArray, List.getElem_cons_zero, List.getElem_cons_succ, List.setIfInBounds_toArray, List.set_cons_zero, List.set_cons_succ]
        refine wpL_reckon (i := 2) (v := ?_) rfl (by kernel_rfl) (fun _ _ _ h => h) (Or.inl ⟨by rfl, ?_⟩) (Or.inr (by assumption)) ?_
        rotate_left 1
        · intro w _; go_simp; try with_reducible rfl
        try simp only [Act.put, List.getElem_toArray, List.getElem_cons_zero, List.getElem_cons_succ, List.setIfInBounds_toArray, List.set_cons_zero, List.set_cons_succ]
        refine wpL_reckon (i := 3) (v := ?_) rfl (by kernel_rfl) (fun _ _ _ h => h) (Or.inl ⟨by rfl, ?_⟩) (Or.inr (by assumption)) ?_
        rotate_left 1
        · intro w _; go_simp; try with_reducible rfl
        try simp only [Act.put, List.getElem_toArray, List.getElem_cons_zero, List.getElem_cons_succ, List.setIfInBounds_toArray, List.set_cons_zero, List.set_cons_succ]
        refine wpL_reckon (i := 4) (v := ?_) rfl (by kernel_rfl) (fun _ _ _ h => h) (Or.inl ⟨by rfl, ?_⟩) (Or.inr (by assumption)) ?_
        rotate_left 1
        · intro w _; go_simp; try with_reducible rfl
        try simp only [Act.put, List.getElem_toArray, List.getElem_cons_zero, List.getElem_cons_succ, List.setIfInBounds_toArray, List.set_cons_zero, List.set_cons_succ]
        refine wpL_reckon (i := 5) (v := ?_) rfl (by kernel_rfl) (fun _ _ _ h => h) (Or.inl ⟨by rfl, ?_⟩) (Or.inr (by assumption)) ?_
        rotate_left 1
        · intro w _; go_simp; try with_reducible rfl
        try simp only [Act.put, List.getElem_toArray, List.getElem_cons_zero, List.getElem_cons_succ, List.setIfInBounds_toArray, List.set_cons_zero, List.set_cons_succ]
        refine wpL_reckon (i := 6) (v := ?_) rfl (by kernel_rfl) (fun _ _ _ h => h) (Or.inl ⟨by rfl, ?_⟩) (Or.inr (by assumption)) ?_
        rotate_left 1
        · intro w _; go_simp; try with_reducible rfl
        try simp only [Act.put, List.getElem_toArray, List.getElem_cons_zero, List.getElem_cons_succ, List.setIfInBounds_toArray, List.set_cons_zero, List.set_cons_succ]
        refine wpL_reckon (i := 7) (v := ?_) rfl (by kernel_rfl) (fun _ _ _ h => h) (Or.inl ⟨by rfl, ?_⟩) (Or.inr (by assumption)) ?_
        rotate_left 1
        · intro w _; go_simp; try with_reducible rfl
        try simp only [Act.put, List.getElem_toArray, List.getElem_cons_zero, List.getElem_cons_succ, List.setIfInBounds_toArray, List.set_cons_zero, List.set_cons_succ]
        refine wpL_reckon (i := 8) (v := ?_) rfl (by kernel_rfl) (fun _ _ _ h => h) (Or.inl ⟨by rfl, ?_⟩) (Or.inr (by assumption)) ?_
        rotate_left 1
        · intro w _; go_simp; try with_reducible rfl
        try simp only [Act.put, List.getElem_toArray, List.getElem_cons_zero, List.getElem_cons_succ, List.setIfInBounds_toArray, List.set_cons_zero, List.set_cons_succ]
        refine wpL_reckon (i := 9) (v := ?_) rfl (by kernel_rfl) (fun _ _ _ h => h) (Or.inl ⟨by rfl, ?_⟩) (Or.inr (by assumption)) ?_
        rotate_left 1
        · intro w _; go_simp; try with_reducible rfl
        try simp only [Act.put, List.getElem_toArray, List.getElem_cons_zero, List.getElem_cons_succ, List.setIfInBounds_toArray, List.set_cons_zero, List.set_cons_succ]
        refine wpL_take (i := 10) (v := ?_) rfl (by kernel_rfl) (fun _ _ _ h => h) (Or.inl ⟨by rfl, ?_⟩) (by assumption) ?_
        rotate_left 1
        · intro w hSw; (try dsimp only at hSw); obtain ⟨s0, s1⟩ := hSw; go_simp; try with_reducible rfl
        try simp only [Act.put, List.getElem_toArray, List.getElem_cons_zero, List.getElem_cons_succ, List.setIfInBounds_toArray, List.set_cons_zero, List.set_cons_succ]
        refine wpL_reckon (i := 11) (v := ?_) rfl (by kernel_rfl) (fun _ _ _ h => h) (Or.inl ⟨by rfl, ?_⟩) (Or.inr (by assumption)) ?_
        rotate_left 1
        · intro w _; go_simp; try with_reducible rfl
        try simp only [Act.put, List.getElem_toArray, List.getElem_cons_zero, List.getElem_cons_succ, List.setIfInBounds_toArray, List.set_cons_zero, List.set_cons_succ]
        refine wpL_ready (rs := [12]) (by kernel_rfl) (by simp) ?_
        refine AllL.cons rfl (fun K hK => ?_) AllL.nil
        go_simp
        have HY1 := Lib.hid (HYD.out.keep HBC.out (new1 (w := wd) (a := .cells #[.slice none 0 0, .slice none 0 0, .int .u8 0, .bool v, .int .i64 0, .int .i64 0, .int .i64 0, .slice (some ⟨p, 0, none⟩) 1 1] 52)))
        have HCE : Hid (∀ j u, (ce8 (me13 b last (cb13p b1) k))[j]? = some u → (wd.alloc (.cells #[.slice none 0 0, .slice none 0 0, .int .u8 0, .bool v, .int .i64 0, .int .i64 0, .int .i64 0, .slice (some ⟨p, 0, none⟩) 1 1] 52)).cell? ((⟨wd.heap.size, 0, none⟩ : Addr).add j) = some u) := Lib.hid (ce8_cells11 wd (me13 b last (cb13p b1) k) _ (by rw [← HV.out, ← HP.out]; rfl) _)
        have hs1 : b1 + 1 ≤ (wd.alloc (.cells #[.slice none 0 0, .slice none 0 0, .int .u8 0, .bool v, .int .i64 0, .int .i64 0, .int .i64 0, .slice (some ⟨p, 0, none⟩) 1 1] 52)).heap.size := HY1.out.sz
        generalize wd.alloc (.cells #[.slice none 0 0, .slice none 0 0, .int .u8 0, .bool v, .int .i64 0, .int .i64 0, .int .i64 0, .slice (some ⟨p, 0, none⟩) 1 1] 52) = we at HY1 HCE hs1 ⊢
        have HA1 := HY1.out.at_ h1
        rw [HP.out] at HA1
        have HG9 := HY1.out.row
        refine hK.out _ _ (⟨HA1.1, HA1.2⟩) (fun hHeld => ?_)
        clear hK K
        try simp only [Act.put, List.getElem_toArray, List.getElem_cons_zero, List.getElem_cons_succ, List.setIfInBounds_toArray, List.set_cons_zero, List.set_cons_succ]
        refine wpL_ready (rs := [13]) (by kernel_rfl) (by simp) ?_
        refine AllL.cons rfl (fun K hK => ?_) AllL.nil
        refine step_append_rm13 rfl (.tmp 28) (.tmp 39) rfl (b1 + 1) _ k ((List.range k).map (me13 b last (cb13p b1))) rfl HG9 _ (me13 b last (cb13p b1) k) rfl HCE.out (by omega) hs1 ?_
        intro A9 c9 w9 ho9 hg9 hb9
        have HYP := Lib.hid (HY1.out.put HBC.out ho9 hg9 hb9)
        have z9 := World.ownsRow.cellAt (own_grown HY1.out.out HY1.out.row (by decide) hg9) k (by omega)
        rw [List.getElem?_map, List.getElem?_range h1] at z9
        have z9 : w9.cell? ⟨b1 + 1 + 1 + 1 + 1, k, none⟩ = some (.slice (some ⟨p, 0, none⟩) 1 1) := z9.trans (by rw [← HP.out]; rfl)
        have y9 := (HY1.out.y1.keep hb9 (by omega)).cells
        have y92 := y9.2.2.1
        have y9f := y9.2.2.2.2 2
        have y9l := (HY1.out.y1.keep hb9 (by omega)).lt
        clear y9 ho9 hg9 hb9 HG9
        refine hK.out _ _ (⟨y92, z9⟩) (fun hHeld => ?_)
        clear hK K
        try simp only [Act.put, List.getElem_toArray, List.getElem_cons_zero, List.getElem_cons_succ, List.setIfInBounds_toArray, List.set_cons_zero, List.set_cons_succ]
        refine wpL_reckon (i := 14) (v := ?_) rfl (by kernel_rfl) (fun _ _ _ h => h) (Or.inl ⟨by rfl, ?_⟩) (Or.inr (by assumption)) ?_
        rotate_left 1
        · intro w _; go_simp; try with_reducible rfl
        try simp only [Act.put, List.getElem_toArray, List.getElem_cons_zero, List.getElem_cons_succ, List.setIfInBounds_toArray, List.set_cons_zero, List.set_cons_succ]
        refine wpL_ready (rs := [15]) (by kernel_rfl) (by simp) ?_
        refine AllL.late rfl (by kernel_rfl) (fun K hK => ?_) AllL.nil
        go_simp
        refine hK.out _ _ ?_
        clear hK K
        try simp only [Act.put, List.getElem_toArray, List.getElem_cons_zero, List.getElem_cons_succ, List.setIfInBounds_toArray, List.set_cons_zero, List.set_cons_succ]
        refine wpL_done (by kernel_rfl) ?_ _
        go_wp2_with fail
        go_roundw
        case rel => exact ⟨k + 1, A9, c9, by omega, by go_num, HYP⟩
        case measure => simp [intOf]; omega
      · obtain rfl : k = 3 := by omega
        have HF := Lib.hid (HYK.out.fin HBC.out HL.out)
        obtain ⟨p0, p1, p2, p3, pf⟩ := HYK.out.y0.cells
        obtain ⟨q0, q1, q2, q3, -⟩ := HYK.out.y1.cells
        have pf0 := pf 0
        have pf1 := pf 1
        have pf2 := pf 2
        have pf3 := pf 3
        have p0l := HYK.out.y0.lt
        clear pf
        go_wp2_with fail
        exact bodyPost_ret (v := .agg #[.slice none 0 0, .slice none 0 0, .slice A1 3 c1, .int .i64 (-1)]) (by simp [results, Try.results38, go_sem, p0, p1, p2, p3]) rfl ⟨_, rfl, HF.out.1, by rw [HBB.out]; exact HF.out.2⟩
end Go.Proofs.Ytimjnmkfbdijeaa
namespace Go.Proofs.Ytimjnmkfbdijeaa
open Go.RowKit
set_option maxRecDepth 100000
set_option linter.unusedSimpArgs false
set_option linter.unusedVariables false

/-- The cells of a row of Booleans. -/
theorem bo13_cells {w : World} {base n c : Nat} {A : Option Addr} {T : List Bool} (h : w.ownsRow base 4 1 (.slice A n c) n (cb13 T)) (hn : 0 < n) : ∃ g, A = some ⟨g, 0, none⟩ ∧ base ≤ g ∧ (∃ k, Bk w g 4 k) ∧ ∀ j x, T[j]? = some x → w.cell? ⟨g, j, none⟩ = some (.bool x) := by
  have hl : T.length = n := by
    have := h.1
    simp [cb13] at this
    omega
  rcases h.2 with ⟨_, h0⟩ | ⟨g, cap, cur, hv, hg, hh, h1, h2, h3, h4⟩
  · omega
  · injection hv with e1 e2 e3
    subst e1
    refine ⟨g, rfl, hg, ⟨cur.size, cur, hh, rfl⟩, fun j x hj => ?_⟩
    have hjl := (List.getElem?_eq_some_iff.1 hj).1
    rw [h.cellAt j (by omega), cb13, List.getElem?_map, hj]
    rfl
theorem th13_len (b : Nat → Bool) (last : Int) : (th13 b last).s.length = 3 := rfl
theorem th13_bl (b : Nat → Bool) (last : Int) : ∀ z ∈ (th13 b last).s, z.2.length ≤ 1000 := by
  intro z hz
  obtain ⟨k, _, rfl⟩ := List.mem_map.1 hz
  simp
def bz13 (r : Nat) (k : Nat) : Bool := r == 2 ^ k
theorem bits13 : ∀ r : Nat, (r = 0 ∨ r = 1 ∨ r = 4) → ∀ k : Nat, k < 3 → (bits BinOp.and IntKind.u8 ((r : Int) / 2 ^ k) 1 == 1) = bz13 r k := by
  intro r hr k hk
  have hk : k = 0 ∨ k = 1 ∨ k = 2 := by omega
  rcases hr with rfl | rfl | rfl <;> rcases hk with rfl | rfl | rfl <;> decide
set_option maxHeartbeats 8000000 in
theorem awake13_v (w : World) : Calls Try.prog 20 #[] w fun r w' => r = .returned (.bool true) ∧ Below w.heap.size w w' := by
  have T0 := Lib.hid (fun w => three13_v 0 (-1) (bz13 0) w (bits13 0 (by omega)) (by omega))
  have T1 := Lib.hid (fun w => three13_v 1 (-1) (bz13 1) w (bits13 1 (by omega)) (by omega))
  have T4 := Lib.hid (fun w => three13_v 4 (-1) (bz13 4) w (bits13 4 (by omega)) (by omega))
  have T5 := Lib.hid (fun w => three13_v 0 5 (bz13 0) w (bits13 0 (by omega)) (by omega))
  have E1 : Hid (so13T (th13 (bz13 0) (-1)) 1 = (true, 0)) := by unfold Hid; decide
  have E2 : Hid (pu13T (th13 (bz13 0) (-1)) = ([false, false, true], 0)) := by unfold Hid; decide
  have E3 : Hid (ch13 (th13 (bz13 1) (-1)) = 130) := by unfold Hid; decide
  have E4 : Hid (ch13 (th13 (bz13 4) (-1)) = 0) := by unfold Hid; decide
  have E5 : Hid (ch13 (th13 (bz13 0) 5) = 2) := by unfold Hid; decide
  obtain ⟨d0, hd0⟩ : ∃ d, th13 (bz13 0) (-1) = d := ⟨_, rfl⟩
  obtain ⟨d1, hd1⟩ : ∃ d, th13 (bz13 1) (-1) = d := ⟨_, rfl⟩
  obtain ⟨d4, hd4⟩ : ∃ d, th13 (bz13 4) (-1) = d := ⟨_, rfl⟩
  obtain ⟨d5, hd5⟩ : ∃ d, th13 (bz13 0) 5 = d := ⟨_, rfl⟩
  have B0 : Hid (d0.s.length ≤ 200 ∧ ∀ z ∈ d0.s, z.2.length ≤ 1000) := Lib.hid (by rw [← hd0]; exact ⟨by rw [th13_len]; omega, th13_bl _ _⟩)
  have B1 : Hid (d1.s.length ≤ 200 ∧ ∀ z ∈ d1.s, z.2.length ≤ 1000) := Lib.hid (by rw [← hd1]; exact ⟨by rw [th13_len]; omega, th13_bl _ _⟩)
  have B4 : Hid (d4.s.length ≤ 200 ∧ ∀ z ∈ d4.s, z.2.length ≤ 1000) := Lib.hid (by rw [← hd4]; exact ⟨by rw [th13_len]; omega, th13_bl _ _⟩)
  have B5 : Hid (d5.s.length ≤ 200 ∧ ∀ z ∈ d5.s, z.2.length ≤ 1000) := Lib.hid (by rw [← hd5]; exact ⟨by rw [th13_len]; omega, th13_bl _ _⟩)
  rw [hd0] at T0 E1 E2
  rw [hd1] at T1 E3
  rw [hd4] at T4 E4
  rw [hd5] at T5 E5
  clear hd0 hd1 hd4 hd5
  go_enter Try.func20, Try.ntmps20
  go_wp2_with fail
  refine (T0.out _).mono ?_
  rintro r w1 ⟨y, rfl, hq, hb⟩
  have HS := Lib.hid (pstores_v y d0 1 w1 hq (by have := B0.out.1; omega))
  rw [E1.out] at HS
  have HB1 := Lib.hid hb
  clear hq hb
  go_wp2_with fail
  refine HS.out.mono ?_
  rintro r w2 ⟨rfl, hb⟩
  have HB2 := Lib.hid (below_on HB1.out hb)
  clear hb HS HB1
  go_wp2_with fail
  refine (T0.out _).mono ?_
  rintro r w3 ⟨y3, rfl, hq, hb⟩
  have HS := Lib.hid (pure13_v y3 d0 w3 hq B0.out.1 B0.out.2)
  rw [E2.out] at HS
  have HB3 := Lib.hid (below_on HB2.out hb)
  clear hq hb HB2
  go_wp2_with fail
  refine HS.out.mono ?_
  rintro r w4 ⟨A, c, rfl, ho, hb⟩
  have HB4 := Lib.hid (below_on HB3.out hb)
  obtain ⟨g, rfl, -, -, hc⟩ := bo13_cells ho (by decide)
  have c0 := hc 0 false rfl
  have c1 := hc 1 false rfl
  have c2 := hc 2 true rfl
  dsimp only [List.length_cons, List.length_nil]
  clear ho hb HS HB3 hc
  go_wp2_with fail
  refine (T1.out _).mono ?_
  rintro r w5 ⟨y5, rfl, hq, hb⟩
  have HS := Lib.hid (check13_v y5 d1 w5 hq (by have := B1.out.1; omega) B1.out.2)
  rw [E3.out] at HS
  have HB5 := Lib.hid (below_on HB4.out hb)
  clear hq hb HB4 c0 c1 c2
  go_wp2_with fail
  refine HS.out.mono ?_
  rintro r w6 ⟨rfl, hb⟩
  have HB6 := Lib.hid (below_on HB5.out hb)
  clear hb HS HB5
  go_wp2_with fail
  refine (T4.out _).mono ?_
  rintro r w7 ⟨y7, rfl, hq, hb⟩
  have HS := Lib.hid (check13_v y7 d4 w7 hq (by have := B4.out.1; omega) B4.out.2)
  rw [E4.out] at HS
  have HB7 := Lib.hid (below_on HB6.out hb)
  clear hq hb HB6
  go_wp2_with fail
  refine HS.out.mono ?_
  rintro r w8 ⟨rfl, hb⟩
  have HB8 := Lib.hid (below_on HB7.out hb)
  clear hb HS HB7
  go_wp2_with fail
  refine (T5.out _).mono ?_
  rintro r w9 ⟨y9, rfl, hq, hb⟩
  have HS := Lib.hid (check13_v y9 d5 w9 hq (by have := B5.out.1; omega) B5.out.2)
  rw [E5.out] at HS
  have HB9 := Lib.hid (below_on HB8.out hb)
  clear hq hb HB8
  go_wp2_with fail
  refine HS.out.mono ?_
  rintro r w10 ⟨rfl, hb⟩
  have HB10 := Lib.hid (below_on HB9.out hb)
  clear hb HS HB9
  go_wp2_with fail
  go_ret
  exact ⟨rfl, HB10.out⟩
end Go.Proofs.Ytimjnmkfbdijeaa
