/-
  Layer 8: what the reference's Copy answers: the same module, in memory of the call's own.
-/
import Derived.Test.YtimjnmkfbdijeaaLq
import Derived.Test.YtimjnmkfbdijeaaLje
namespace Go.Proofs.Ytimjnmkfbdijeaa
open Go.RowKit
set_option maxRecDepth 100000
set_option linter.unusedSimpArgs false
set_option linter.unusedVariables false

/-- Four cells of a module of which n methods are told. -/
def Dc (w : World) (T : Nat) (A1 A2 A3 : Option Addr) (c1 c2 c3 : Nat) (d : Md) (n : Nat) : Prop := T < w.heap.size ∧ w.cell? ⟨T, 0, none⟩ = some (.slice A1 d.g.length c1) ∧ w.cell? ⟨T, 1, none⟩ = some (.slice A2 d.p.length c2) ∧ w.cell? ⟨T, 2, none⟩ = some (.slice A3 n c3) ∧ w.cell? ⟨T, 3, none⟩ = some (.int .i64 d.i)
/-- A module that is nothing yet, in a block of its own. -/
def T8 (w : World) (T : Nat) : Prop := Mf w T ∧ Db w T Ma.zero Md.zero ∧ Bk w T 25 4
theorem T8.new (w : World) : T8 (w.alloc (.cells #[.slice none 0 0, .slice none 0 0, .slice none 0 0, .int .i64 0] 25)) w.heap.size := ⟨Mf.new w _ _, Db.new w Ma.zero Md.zero, Bk.new w _ _⟩
theorem T8.keep {w w' : World} {T : Nat} (h : T8 w T) (hb : Below w.heap.size w w') : T8 w' T := ⟨h.1.keep hb, h.2.1.keep hb, h.2.2.keep hb⟩
/-- A method amid its copying, in block Tb. -/
def Tz (wr w' : World) (Tb : Nat) (x : Mc) (m : Mh) : Prop := Below Tb wr w' ∧ Mf w' Tb ∧ Mb w' Tb x m
section
variable {wr w1 w2 : World} {Tb : Nat} {x : Mc} {m : Mh}
theorem Tz.new (w : World) (x : Mc) (m : Mh) : Tz w (w.alloc (hcel x m)) w.heap.size x m := ⟨new1, Mf.new w _ _, Mb.new w x m⟩
theorem Tz.call (h : Tz wr w1 Tb x m) (hb : Below w1.heap.size w1 w2) : Tz wr w2 Tb x m := ⟨h.1.trans (hb.mono (Nat.le_of_lt h.2.1.1)), h.2.1.keep hb, h.2.2.keep hb⟩
theorem Tz.set (h : Tz wr w1 Tb x m) {x2 : Mc} (i : Nat) (v : Value) (hm : Mb (w1.setCell ⟨Tb, i, none⟩ v) Tb x2 m) : Tz wr (w1.setCell ⟨Tb, i, none⟩ v) Tb x2 m := ⟨h.1.setCell (Nat.le_refl _) _, h.2.1.set _ _, hm⟩
end
theorem ce8_new (w : World) (z : Me) (t : Nat) : ∀ j u, (ce8 z)[j]? = some u → (w.alloc (.cells (ce8 z).toArray t)).cell? ((⟨w.heap.size, 0, none⟩ : Addr).add j) = some u := by
  intro j u h
  have e : (⟨w.heap.size, 0, none⟩ : Addr).add j = ⟨w.heap.size, j, none⟩ := by
    unfold Addr.add
    split
    · rename_i h0; simp [h0]
    · simp
  rw [e]
  simp [go_sem, h]
theorem Bk.grownEq {w w' : World} {B t n base2 e2 size2 n2 : Nat} {v2 : Value} {xs2 : List Value} (h : Bk w B t n) (h2 : w.ownsRow base2 e2 size2 v2 n2 xs2) (hne : t ≠ e2) (hg : w.grownBy w' v2.ownBlock) : w'.heap[B]? = w.heap[B]? := by
  have hlt := h.lt
  obtain ⟨cur, hh, hn⟩ := h
  refine hg.block B hlt fun e' => ?_
  rcases h2.2 with ⟨rfl, _⟩ | ⟨g2, cap2, cur2, rfl, _, hh2, _⟩
  · simp [Value.ownBlock] at e'
  · simp [Value.ownBlock] at e'
    subst e'
    rw [hh] at hh2
    injection hh2 with hh2
    injection hh2 with _ h3 _
    exact hne h3
theorem Wz.grown {w w' : World} {lo base n : Nat} {z : Me} {v : Value} {xs : List Value} (h : Wz w lo z) (h2 : w.ownsRow base 52 8 v n xs) (hg : w.grownBy w' v.ownBlock) : Wz w' lo z := ⟨h.1, own_grown h.2.1 h2 (by decide) hg, own_grown h.2.2.1 h2 (by decide) hg, own_grown h.2.2.2 h2 (by decide) hg⟩
theorem Wz.based {w : World} {lo lo2 : Nat} {z : Me} (h : Wz w lo z) (hl : lo2 ≤ lo) : Wz w lo2 z := ⟨h.1, own_base h.2.1 hl, own_base h.2.2.1 hl, own_base h.2.2.2 hl⟩
/-- Amid the reference's Copy: the argument in block B1, the result's cell behind it, the copy in block T with the methods Zs so far. -/
def Rc8 (w : World) (B1 T : Nat) (y : Ma) (d : Md) (A1 A2 : Option Addr) (c1 c2 : Nat) (Zs : List Me) (A3 : Option Addr) (c3 n : Nat) (wr : World) : Prop :=
  Below w.heap.size w wr ∧ Db wr B1 y d ∧ (Mf wr (B1 + 1) ∧ Db wr (B1 + 1) Ma.zero Md.zero) ∧ Mf wr T ∧ Dc wr T A1 A2 A3 c1 c2 c3 d n ∧ Bk wr T 25 4 ∧
  wr.ownsRow (B1 + 2) 69 3 (.slice A1 d.g.length c1) d.g.length (cev d.g) ∧ wr.ownsRow (B1 + 2) 69 3 (.slice A2 d.p.length c2) d.p.length (cev d.p) ∧
  wr.ownsRow (B1 + 2) 52 8 (.slice A3 n c3) n (cem Zs) ∧ ((∀ z ∈ Zs, Wz wr (B1 + 2) z) ∧ Zs.map ze = d.s.take n ∧ w.heap.size = B1) ∧ B1 + 2 ≤ T
section
variable {w wr w' : World} {B1 T : Nat} {y : Ma} {d : Md} {A1 A2 A3 : Option Addr} {c1 c2 c3 n : Nat} {Zs : List Me}
theorem Dc.of {p : World → Prop} : True := trivial
theorem Dc.keep (h : Dc wr T A1 A2 A3 c1 c2 c3 d n) (hb : Below wr.heap.size wr w') : Dc w' T A1 A2 A3 c1 c2 c3 d n := by
  obtain ⟨h0, h1, h2, h3, h4⟩ := h
  obtain ⟨hc, hf⟩ := bcell hb
  exact ⟨Nat.lt_of_lt_of_le h0 hb.size, (hc _ _ h0).trans h1, (hc _ _ h0).trans h2, (hc _ _ h0).trans h3, (hc _ _ h0).trans h4⟩
theorem Rc8.call (h : Rc8 w B1 T y d A1 A2 c1 c2 Zs A3 c3 n wr) (hb : Below wr.heap.size wr w') : Rc8 w B1 T y d A1 A2 c1 c2 Zs A3 c3 n w' := by
  obtain ⟨h1, h2, h3, h4, h5, h6, h7, h8, h9, ⟨ha, hb2, hc⟩, hd⟩ := h
  exact ⟨h1.trans (hb.mono h1.size), h2.keep hb, ⟨h3.1.keep hb, h3.2.keep hb⟩, h4.keep hb, h5.keep hb, h6.keep hb, own_below h7 hb (Nat.le_refl _), own_below h8 hb (Nat.le_refl _), own_below h9 hb (Nat.le_refl _), ⟨fun z hz => (ha z hz).keep hb, hb2, hc⟩, hd⟩
/-- Behind an append of one method. -/
def Rg8 (w : World) (B1 T : Nat) (y : Ma) (d : Md) (A1 A2 : Option Addr) (c1 c2 : Nat) (Zs : List Me) (A3 : Option Addr) (c3 n : Nat) (z : Me) (A7 : Option Addr) (c7 : Nat) (wr : World) : Prop :=
  Below w.heap.size w wr ∧ Db wr B1 y d ∧ (Mf wr (B1 + 1) ∧ Db wr (B1 + 1) Ma.zero Md.zero) ∧ Mf wr T ∧ Dc wr T A1 A2 A3 c1 c2 c3 d n ∧ Bk wr T 25 4 ∧
  wr.ownsRow (B1 + 2) 69 3 (.slice A1 d.g.length c1) d.g.length (cev d.g) ∧ wr.ownsRow (B1 + 2) 69 3 (.slice A2 d.p.length c2) d.p.length (cev d.p) ∧
  wr.ownsRow (B1 + 2) 52 8 (.slice A7 (n + 1) c7) (n + 1) (cem (Zs ++ [z])) ∧ ((∀ t ∈ Zs ++ [z], Wz wr (B1 + 2) t) ∧ (Zs ++ [z]).map ze = d.s.take (n + 1) ∧ w.heap.size = B1) ∧ B1 + 2 ≤ T
theorem Db.belowB {B k : Nat} (h : Db wr B y d) (hb : Below k wr w') (hk : B < k) : Db w' B y d := by
  obtain ⟨h0, h1, h2, h3, h4⟩ := h
  have hc : ∀ i, w'.cell? ⟨B, i, none⟩ = wr.cell? ⟨B, i, none⟩ := fun i => hb.cell (p := ⟨B, i, none⟩) (show B < k from hk)
  exact ⟨Nat.lt_of_lt_of_le h0 hb.size, (hc _).trans h1, (hc _).trans h2, (hc _).trans h3, (hc _).trans h4⟩
theorem Mf.belowB {B k : Nat} (h : Mf wr B) (hb : Below k wr w') (hk : B < k) : Mf w' B := ⟨Nat.lt_of_lt_of_le h.1 hb.size, fun i => (hb.frozen (p := ⟨B, i, none⟩) (show B < k from hk)).trans (h.2 i)⟩
theorem Rc8.grow {z : Me} {A7 : Option Addr} {c7 : Nat} (h : Rc8 w B1 T y d A1 A2 c1 c2 Zs A3 c3 n wr) (hg : wr.grownBy w' (Value.slice A3 n c3).ownBlock) (hb : Below (B1 + 2) wr w') (hw : Wz wr (B1 + 2) z)
    (ho : w'.ownsRow (B1 + 2) 52 8 (.slice A7 (n + 1) c7) (n + 1) (cem (Zs ++ [z]))) (hz : (d.s)[n]? = some (ze z)) : Rg8 w B1 T y d A1 A2 c1 c2 Zs A3 c3 n z A7 c7 w' := by
  obtain ⟨h1, h2, h3, h4, h5, h6, h7, h8, h9, ⟨ha, hb2, hc⟩, hd⟩ := h
  have he := h6.grownEq h9 (by decide) hg
  have hs := hb.size
  have kc : ∀ i, w'.cell? ⟨T, i, none⟩ = wr.cell? ⟨T, i, none⟩ := fun i => World.cell?_of_block (w := wr) he
  have kf : ∀ i, w'.frozen? ⟨T, i, none⟩ = wr.frozen? ⟨T, i, none⟩ := fun i => World.frozen?_of_block (w := wr) he
  refine ⟨h1.trans (hb.mono (by omega)), h2.belowB hb (by omega), ⟨h3.1.belowB hb (by omega), h3.2.belowB hb (by omega)⟩, ⟨Nat.lt_of_lt_of_le h4.1 hs, fun i => (kf i).trans (h4.2 i)⟩,
    ⟨Nat.lt_of_lt_of_le h5.1 hs, (kc 0).trans h5.2.1, (kc 1).trans h5.2.2.1, (kc 2).trans h5.2.2.2.1, (kc 3).trans h5.2.2.2.2⟩, h6.grown h9 (by decide) hg, own_grown h7 h9 (by decide) hg, own_grown h8 h9 (by decide) hg, ho, ⟨fun t ht => ?_, ?_, hc⟩, hd⟩
  · rcases List.mem_append.1 ht with ht | ht
    · exact (ha t ht).grown h9 hg
    · rw [List.mem_singleton.1 ht]; exact hw.grown h9 hg
  · rw [List.map_append, hb2, List.take_add_one, hz]
    rfl
theorem Rg8.put {z : Me} {A7 : Option Addr} {c7 : Nat} (h : Rg8 w B1 T y d A1 A2 c1 c2 Zs A3 c3 n z A7 c7 wr) : Rc8 w B1 T y d A1 A2 c1 c2 (Zs ++ [z]) A7 c7 (n + 1) (wr.setCell ⟨T, 2, none⟩ (.slice A7 (n + 1) c7)) := by
  obtain ⟨h1, h2, h3, h4, h5, h6, h7, h8, h9, ⟨ha, hb2, hc⟩, hd⟩ := h
  refine ⟨h1.setCell (show w.heap.size ≤ T by omega) _, h2.other (show T ≠ B1 by omega) _, ⟨h3.1.set _ _, h3.2.other (show T ≠ B1 + 1 by omega) _⟩, h4.set _ _, ?_, h6.set _ _ _, own_tag h7 h6 (by decide) _ _, own_tag h8 h6 (by decide) _ _, own_tag h9 h6 (by decide) _ _, ⟨fun t ht => ?_, hb2, hc⟩, hd⟩
  · obtain ⟨i0, i1, i2, i3, i4⟩ := h5
    refine ⟨by simpa using i0, ?_, ?_, ?_, ?_⟩ <;> simp [go_sem, i1, i2, i3, i4]
  · obtain ⟨j1, j2, j3, j4⟩ := ha t ht
    exact ⟨j1, own_tag j2 h6 (by decide) _ _, own_tag j3 h6 (by decide) _ _, own_tag j4 h6 (by decide) _ _⟩
theorem Rc8.fin (h : Rc8 w B1 T y d A1 A2 c1 c2 Zs A3 c3 d.s.length wr) (hq : Hq w y d) :
    Db (put4 wr (B1 + 1) ⟨A1, c1, A2, c2, A3, c3, Zs⟩ d) (B1 + 1) ⟨A1, c1, A2, c2, A3, c3, Zs⟩ d ∧ Hq (put4 wr (B1 + 1) ⟨A1, c1, A2, c2, A3, c3, Zs⟩ d) ⟨A1, c1, A2, c2, A3, c3, Zs⟩ d ∧
      Ow (put4 wr (B1 + 1) ⟨A1, c1, A2, c2, A3, c3, Zs⟩ d) w.heap.size (put4 wr (B1 + 1) ⟨A1, c1, A2, c2, A3, c3, Zs⟩ d).heap.size ⟨A1, c1, A2, c2, A3, c3, Zs⟩ d ∧ Below w.heap.size w (put4 wr (B1 + 1) ⟨A1, c1, A2, c2, A3, c3, Zs⟩ d) := by
  obtain ⟨h1, h2, h3, h4, h5, h6, h7, h8, h9, ⟨ha, hb2, hc⟩, hd⟩ := h
  rw [List.take_of_length_le (Nat.le_refl _)] at hb2
  have k4 := put4_ownN h7 (show B1 + 1 < B1 + 2 by omega) ⟨A1, c1, A2, c2, A3, c3, Zs⟩ d
  have k5 := put4_ownN h8 (show B1 + 1 < B1 + 2 by omega) ⟨A1, c1, A2, c2, A3, c3, Zs⟩ d
  have k6 := put4_ownN h9 (show B1 + 1 < B1 + 2 by omega) ⟨A1, c1, A2, c2, A3, c3, Zs⟩ d
  have k7 : ∀ z ∈ Zs, Wz (put4 wr (B1 + 1) ⟨A1, c1, A2, c2, A3, c3, Zs⟩ d) (B1 + 2) z := fun z hz => (ha z hz).put4 (by omega) _ d
  exact ⟨put4_db h3.2 _ d, ⟨(Rv.of_own k4 hq.1.1).1, (Rv.of_own k5 hq.2.1.1).1, (Rm.of_own k6 (fun z hz => (k7 z hz).ok)).1, hb2, hq.2.2.2.2⟩, ⟨Rs.of_own k4 (by omega) (Nat.le_refl _), Rs.of_own k5 (by omega) (Nat.le_refl _), Rs.of_own k6 (by omega) (Nat.le_refl _), fun z hz => (k7 z hz).ow (by omega) (Nat.le_refl _)⟩, put4_below h1 (by omega) _ d⟩
end
theorem rc8_start {w wE : World} {B1 T : Nat} {y : Ma} {d : Md} {A1 A2 : Option Addr} {c1 c2 : Nat} (hS : Sx w wE [fF B1, fD B1 y d, fMz (B1 + 1), fQm y d]) (hB : w.heap.size = B1) (hT : T8 wE T) (hTB : B1 + 2 ≤ T)
    (o1 : wE.ownsRow (B1 + 2) 69 3 (.slice A1 d.g.length c1) d.g.length (cev d.g)) (o2 : wE.ownsRow (B1 + 2) 69 3 (.slice A2 d.p.length c2) d.p.length (cev d.p)) :
    Hid (Rc8 w B1 T y d A1 A2 c1 c2 [] none 0 0 ((((wE.setCell ⟨T, 0, none⟩ (.slice A1 d.g.length c1)).setCell ⟨T, 1, none⟩ (.slice A2 d.p.length c2)).setCell ⟨T, 2, none⟩ (.slice none 0 0)).setCell ⟨T, 3, none⟩ (.int .i64 d.i))) := by
  obtain ⟨s1, s2, s3, s4, -⟩ := hS
  obtain ⟨t1, t2, t3⟩ := hT
  have hne : ∀ i, (⟨T, i, none⟩ : Addr).block ≠ B1 := fun i => by show T ≠ B1; omega
  have hne2 : ∀ i, (⟨T, i, none⟩ : Addr).block ≠ B1 + 1 := fun i => by show T ≠ B1 + 1; omega
  have hle : ∀ i, w.heap.size ≤ (⟨T, i, none⟩ : Addr).block := fun i => by show w.heap.size ≤ T; omega
  have b0 := t3.set T 0 (.slice A1 d.g.length c1)
  have b1 := b0.set T 1 (.slice A2 d.p.length c2)
  have b2 := b1.set T 2 (.slice none 0 0)
  refine ⟨(((s1.setCell (hle 0) _).setCell (hle 1) _).setCell (hle 2) _).setCell (hle 3) _, (((s3.other (hne 0) _).other (hne 1) _).other (hne 2) _).other (hne 3) _, ⟨(((s4.1.set _ _).set _ _).set _ _).set _ _, (((s4.2.other (hne2 0) _).other (hne2 1) _).other (hne2 2) _).other (hne2 3) _⟩,
    (((t1.set _ _).set _ _).set _ _).set _ _, ?_, b2.set _ _ _, own_tag (own_tag (own_tag (own_tag o1 t3 (by decide) _ _) b0 (by decide) _ _) b1 (by decide) _ _) b2 (by decide) _ _, own_tag (own_tag (own_tag (own_tag o2 t3 (by decide) _ _) b0 (by decide) _ _) b1 (by decide) _ _) b2 (by decide) _ _, World.ownsRow_nil _ _ _ _, ⟨fun z hz => (by cases hz), by simp, hB⟩, hTB⟩
  obtain ⟨i0, i1, i2, i3, i4⟩ := t2
  refine ⟨by simpa using i0, ?_, ?_, ?_, ?_⟩ <;> simp [go_sem, i1, i2, i3, i4]
theorem rcopy_end (tm : Array Value) (w' : World) (T : Nat) (y : Ma) (d : Md) (hT : tm[2]?.getD undef = .pointer (some ⟨T, 0, none⟩)) (hM : Db w' T y d) (R : Ending → World → Prop)
    (hR : R (.returned (dv y d)) w') : bodyPost Try.prog Try.f8 R .ret { tmps := tm, defers := [] } w' := by
  obtain ⟨h0, c1, c2, c3, c4⟩ := hM
  exact bodyPost_ret (v := dv y d) (by simp [results, Try.results8, go_sem, hT, c1, c2, c3, c4]) rfl hR
set_option maxHeartbeats 8000000 in
theorem r8copy_v (y : Ma) (d : Md) (w : World) (hq : Hq w y d) (bb1 : d.g.length ≤ 1000) (bb2 : d.p.length ≤ 1000) (bb3 : d.s.length ≤ 1000) (bb4 : ∀ z ∈ y.Z, z.m.a.length ≤ 1000 ∧ z.m.l.length ≤ 1000 ∧ z.x.k ≤ 1000) :
    Calls Try.prog 8 #[dv y d] w fun r w' => ∃ t, r = .returned (dv t d) ∧ Hq w' t d ∧ Ow w' w.heap.size w'.heap.size t d ∧ Below w.heap.size w w' := by
  obtain ⟨i0, hi, hz0, hz1, hz2⟩ := info_parts Try.info5
  obtain ⟨G, gc, P, pc, A, c, Z⟩ := y
  have HZL := Lib.hid hq.zlen
  have HZA := Lib.hid (fun (i : Nat) (h1 : i < Z.length) (h2 : i < d.s.length) => hq.zat h1 h2)
  dsimp only at HZL HZA bb4
  have HQ0 := Lib.hid hq
  have HB4 := Lib.hid bb4
  have S0 : Hid (Sx w ((w.alloc (dcel ⟨G, gc, P, pc, A, c, Z⟩ d)).alloc (dcel Ma.zero Md.zero)) [fF w.heap.size, fD w.heap.size ⟨G, gc, P, pc, A, c, Z⟩ d, fMz (w.heap.size + 1), fQm ⟨G, gc, P, pc, A, c, Z⟩ d]) := by
    have h1 := (((Sx.start w).add (fQm ⟨G, gc, P, pc, A, c, Z⟩ d) hq).mkD ⟨G, gc, P, pc, A, c, Z⟩ d).mkD Ma.zero Md.zero
    have h2 := Db.new (w.alloc (dcel ⟨G, gc, P, pc, A, c, Z⟩ d)) Ma.zero Md.zero
    have h3 := Mf.new (w.alloc (dcel ⟨G, gc, P, pc, A, c, Z⟩ d)) #[.slice none 0 0, .slice none 0 0, .slice none 0 0, .int .i64 0] 25
    rw [size1] at h1 h2 h3
    exact ⟨h1.1, (Mf.new w _ _).keep new1, h1.2.2.1, ⟨h3, h2⟩, h1.2.2.2⟩
  clear hq bb4
  go_enter Try.func8, Try.ntmps8
  go_upto_region 1 with (fail)
  have S0' : Hid (Sx w ((w.alloc (.cells #[.slice G d.g.length gc, .slice P d.p.length pc, .slice A d.s.length c, .int .i64 d.i] 25)).alloc (.cells #[.slice none 0 0, .slice none 0 0, .slice none 0 0, .int .i64 0] 25)) [fF w.heap.size, fD w.heap.size ⟨G, gc, P, pc, A, c, Z⟩ d, fMz (w.heap.size + 1), fQm ⟨G, gc, P, pc, A, c, Z⟩ d]) := S0
  clear S0
  generalize (w.alloc (.cells #[.slice G d.g.length gc, .slice P d.p.length pc, .slice A d.s.length c, .int .i64 d.i] 25)).alloc (.cells #[.slice none 0 0, .slice none 0 0, .slice none 0 0, .int .i64 0] 25) = w0 at *
  have S0 := S0'
  clear S0'
  obtain ⟨B1, hB1⟩ : ∃ B, w.heap.size = B := ⟨_, rfl⟩
  have HBQ := Lib.hid hB1
  rw [hB1] at S0 ⊢
  clear hB1
  rename_i Qx Kx hKx
  have TAIL : ∀ (T : Nat) (A1 : Option Addr) (c1 : Nat) (A2 : Option Addr) (c2 : Nat) (wE : World) (HC : Hid (Rc8 w B1 T ⟨G, gc, P, pc, A, c, Z⟩ d A1 A2 c1 c2 [] none 0 0 wE)) (u4 u5 u6 u7 u8 u9 u10 u11 u12 u13 u14 : Value),
      Exit.then Kx Qx .normal { tmps := #[dv ⟨G, gc, P, pc, A, c, Z⟩ d, .pointer (some ⟨B1, 0, none⟩), .pointer (some ⟨B1 + 1, 0, none⟩), .pointer (some ⟨T, 0, none⟩), u4, u5, u6, u7, u8, u9, u10, u11, u12, u13, u14, undef, undef, undef, undef, undef, undef, undef, undef, undef, undef, undef, undef, undef, undef, undef, undef, undef, undef, undef, undef, undef, undef, undef, undef, undef, undef, undef, undef, undef, undef, undef, undef, undef], defers := [] } wE := by
    intro T A1 c1 A2 c2 wE HC u4 u5 u6 u7 u8 u9 u10 u11 u12 u13 u14
    clear S0
    go_wp2_with fail
    go_loopw [4] (fun i wr => ∃ (j : Nat) (Zs : List Me) (A3 : Option Addr) (c3 : Nat), j ≤ d.s.length ∧ i = .int .i64 j ∧ Hid (Rc8 w B1 T ⟨G, gc, P, pc, A, c, Z⟩ d A1 A2 c1 c2 Zs A3 c3 j wr)) (fun i _ => d.s.length - (intOf i).toNat)
    case atStart => exact ⟨0, [], none, 0, by omega, rfl, HC⟩
    case round =>
      obtain ⟨j, Zs, A3, c3, hj, rfl, HR⟩ := hrel
      clear HC
      obtain ⟨y0, y1, y2, y3, y4⟩ := HR.out.2.1
      dsimp only at y1 y2 y3
      by_cases h1 : j < d.s.length
      · have h1z : j < Z.length := by rw [HZL.out]; exact h1
        have hq := HQ0.out.keep HR.out.1
        obtain ⟨ad, hA, h8, hok⟩ := hq.2.2.1.at_ h1z
        dsimp only at hA h8 hok
        subst hA
        have HZE : Hid (ze Z[j] = d.s[j]) := Lib.hid (HZA.out j h1z h1).symm
        have HZB := Lib.hid (HB4.out Z[j] (List.getElem_mem h1z))
        clear hq
        generalize Z[j] = z at *
        obtain ⟨x, m, k⟩ := z
        obtain ⟨q1, q2, q3⟩ := HZB.out
        dsimp only at q1 q2 q3
        have HOK := Lib.hid hok
        clear hok HZB
        obtain ⟨x0, x1, x2, x3, x4, x5, x6, x7⟩ := h8
        dsimp only at x0 x1 x2 x3 x4 x5 x6 x7
        have Q1 := Lib.hid (Tz.new wr x m)
        go_upto_region 6 with (fail)
        obtain ⟨wb, hwb⟩ : ∃ wb, wr.alloc (hcel x m) = wb := ⟨_, rfl⟩
        rw [hwb] at Q1
        rw [hcel] at hwb
        rw [hwb]
        clear hwb x0 x1 x2 x3 x4 x5 x6 x7 y0 y1 y2 y3 y4
        obtain ⟨Tb, hTb⟩ : ∃ Tb, wr.heap.size = Tb := ⟨_, rfl⟩
        have HTb := Lib.hid hTb
        rw [hTb] at Q1 ⊢
        clear hTb
        obtain ⟨z0, z1, z2, z3, z4, z5, z6, z7, z8⟩ := Q1.out.2.2
        go_wp2_with (at_builtin; refine wpList_append_rd _ rfl (.tmp 27) (.tmp 29) 49 rfl wb.heap.size 5 i0 Try.underlying49 hi hz0 hz1 hz2 _ 0 [] rfl (World.ownsRow_lit wb #[] 0 (Nat.le_refl _) (Nat.zero_le _) rfl) x.A m.a.length x.c m.a rfl (Rd.alloc (HOK.out.1.1.keep (HTb.out ▸ Q1.out.1)) _) rfl (by omega) (by simp) ?_)
        intro A4 c4 w1 ho1 hg1 hb1 _
        have Q2 := Lib.hid (Q1.out.call (new1.trans hb1))
        have HO4 : Hid (w1.ownsRow (Tb + 1) 5 1 (.slice A4 m.a.length c4) m.a.length (cel m.a)) := own_base (by simpa using ho1) (Nat.succ_le_of_lt Q1.out.2.1.1)
        have Q3 := Lib.hid (Q2.out.set 0 (.slice A4 m.a.length c4) (Q2.out.2.2.setA A4 c4 m.a _ rfl))
        have HO4b : Hid ((w1.setCell ⟨Tb, 0, none⟩ (.slice A4 m.a.length c4)).ownsRow (Tb + 1) 5 1 (.slice A4 m.a.length c4) m.a.length (cel m.a)) := ownsRow_setCell_below HO4.out (by show Tb < _; omega) _
        clear ho1 hg1 hb1 Q1 HO4 z0 z1 z2 z3 z4 z5 z6 z7 z8
        obtain ⟨f0, f1, f2, f3, f4, f5, f6, f7⟩ := Q2.out.2.1.keepM
        obtain ⟨z0, z1, z2, z3, z4, z5, z6, z7, z8⟩ := Q2.out.2.2
        go_upto_region 7 with (fail)
        clear f0 f1 f2 f3 f4 f5 f6 f7 z0 z1 z2 z3 z4 z5 z6 z7 z8 Q2
        generalize w1.setCell ⟨Tb, 0, none⟩ (.slice A4 m.a.length c4) = w2 at Q3 HO4b ⊢
        obtain ⟨z0, z1, z2, z3, z4, z5, z6, z7, z8⟩ := Q3.out.2.2
        dsimp only at z1 z2 z8
        go_wp2_with (at_builtin; refine wpList_append_rd _ rfl (.tmp 32) (.tmp 34) 49 rfl w2.heap.size 5 i0 Try.underlying49 hi hz0 hz1 hz2 _ 0 [] rfl (World.ownsRow_lit w2 #[] 0 (Nat.le_refl _) (Nat.zero_le _) rfl) x.B m.l.length x.d m.l rfl (Rd.alloc (HOK.out.1.2.1.keep (HTb.out ▸ Q3.out.1)) _) rfl (by omega) (by simp) ?_)
        intro A5 c5 w3 ho1 hg1 hb1 _
        have Q4 := Lib.hid (Q3.out.call (new1.trans hb1))
        have HO5 : Hid (w3.ownsRow (Tb + 1) 5 1 (.slice A5 m.l.length c5) m.l.length (cel m.l)) := own_base (by simpa using ho1) (Nat.succ_le_of_lt Q3.out.2.1.1)
        have HO4c := Lib.hid (own_below HO4b.out (new1.trans hb1) (Nat.le_refl _))
        have Q5 := Lib.hid (Q4.out.set 1 (.slice A5 m.l.length c5) (Q4.out.2.2.setB A5 c5 m.l _ rfl))
        have HO4d : Hid ((w3.setCell ⟨Tb, 1, none⟩ (.slice A5 m.l.length c5)).ownsRow (Tb + 1) 5 1 (.slice A4 m.a.length c4) m.a.length (cel m.a)) := ownsRow_setCell_below HO4c.out (by show Tb < _; omega) _
        have HO5b : Hid ((w3.setCell ⟨Tb, 1, none⟩ (.slice A5 m.l.length c5)).ownsRow (Tb + 1) 5 1 (.slice A5 m.l.length c5) m.l.length (cel m.l)) := ownsRow_setCell_below HO5.out (by show Tb < _; omega) _
        clear ho1 hg1 hb1 Q3 HO4b HO4c HO5 z0 z1 z2 z3 z4 z5 z6 z7 z8
        obtain ⟨f0, f1, f2, f3, f4, f5, f6, f7⟩ := Q4.out.2.1.keepM
        obtain ⟨z0, z1, z2, z3, z4, z5, z6, z7, z8⟩ := Q4.out.2.2
        dsimp only at z1 z2 z8
        go_upto_region 8 with (fail)
        clear f0 f1 f2 f3 f4 f5 f6 f7 z0 z1 z2 z3 z4 z5 z6 z7 z8 Q4
        generalize w3.setCell ⟨Tb, 1, none⟩ (.slice A5 m.l.length c5) = w4 at Q5 HO4d HO5b ⊢
        obtain ⟨z0, z1, z2, z3, z4, z5, z6, z7, z8⟩ := Q5.out.2.2
        dsimp only at z1 z2 z8
        go_wp2_with fail
        refine (rcopy_any x.D x.e x.k k _ (HOK.out.2.1.keep (HTb.out ▸ Q5.out.1)) HOK.out.2.2 (by omega)).mono ?_
        rintro r w5 ⟨A6, c6, rfl, ho1, hb1⟩
        have Q6 := Lib.hid (Q5.out.call hb1)
        have HO6 := Lib.hid (own_base ho1 (Nat.succ_le_of_lt Q5.out.2.1.1))
        have HO4e := Lib.hid (own_below HO4d.out hb1 (Nat.le_refl _))
        have HO5c := Lib.hid (own_below HO5b.out hb1 (Nat.le_refl _))
        have Q7 := Lib.hid (Q6.out.set (x2 := ⟨A4, c4, A5, c5, A6, x.k, c6⟩) 7 (.slice A6 x.k c6) (Q6.out.2.2.setD A6 x.k c6))
        have HW : Hid (Wz (w5.setCell ⟨Tb, 7, none⟩ (.slice A6 x.k c6)) (Tb + 1) ⟨⟨A4, c4, A5, c5, A6, x.k, c6⟩, m, k⟩) :=
          Lib.hid ⟨⟨HOK.out.1.1.byt, HOK.out.1.2.1.byt, HOK.out.1.2.2, HOK.out.2.1.1, HOK.out.2.2⟩, ownsRow_setCell_below HO4e.out (by show Tb < _; omega) _, ownsRow_setCell_below HO5c.out (by show Tb < _; omega) _, ownsRow_setCell_below HO6.out (by show Tb < _; omega) _⟩
        clear ho1 hb1 Q5 HO4d HO5b HO4e HO5c HO6 z0 z1 z2 z3 z4 z5 z6 z7 z8
        obtain ⟨f0, f1, f2, f3, f4, f5, f6, f7⟩ := Q6.out.2.1.keepM
        obtain ⟨z0, z1, z2, z3, z4, z5, z6, z7, z8⟩ := Q6.out.2.2
        dsimp only at z1 z2 z8
        go_upto_region 9 with (fail)
        clear f0 f1 f2 f3 f4 f5 f6 f7 z0 z1 z2 z3 z4 z5 z6 z7 z8 Q6
        generalize w5.setCell ⟨Tb, 7, none⟩ (.slice A6 x.k c6) = w6 at Q7 HW ⊢
        have hTB := HR.out.2.2.2.2.2.2.2.2.2.2
        have hTw : B1 + 2 ≤ Tb := by have := HR.out.2.2.2.1.1; rw [HTb.out] at this; omega
        have HR2 := Lib.hid (HR.out.call (w' := w6) (HTb.out ▸ Q7.out.1))
        have HW2 := Lib.hid (HW.out.based (Nat.le_succ_of_le hTw))
        clear HW HR HOK
        have HR3 := Lib.hid (HR2.out.call (new1 (a := .cells (ce8 ⟨⟨A4, c4, A5, c5, A6, x.k, c6⟩, m, k⟩).toArray 52)))
        have HW3 := Lib.hid (HW2.out.keep (new1 (a := .cells (ce8 ⟨⟨A4, c4, A5, c5, A6, x.k, c6⟩, m, k⟩).toArray 52)))
        obtain ⟨z0, z1, z2, z3, z4, z5, z6, z7, z8⟩ := Q7.out.2.2
        dsimp only at z1 z2 z8
        obtain ⟨t0, t1, t2, t3, t4⟩ := HR2.out.2.2.2.2.1
        go_wp2_with (at_builtin; refine wpList_append_rm _ rfl (.tmp 42) (.tmp 44) rfl (B1 + 2) (.slice A3 j c3) j Zs rfl HR3.out.2.2.2.2.2.2.2.2.1 ⟨w6.heap.size, 0, none⟩ ⟨⟨A4, c4, A5, c5, A6, x.k, c6⟩, m, k⟩ rfl (ce8_new w6 _ _) (by omega) (Nat.le_trans hTB (Nat.le_of_lt HR3.out.2.2.2.1.1)) ?_)
        intro A7 c7 w7 ho1 hg1 hb1 _
        have HR4 := Lib.hid (HR3.out.grow hg1 hb1 HW3.out ho1 (by rw [List.getElem?_eq_getElem h1]; exact congrArg some HZE.out.symm))
        have HR5 := Lib.hid (HR4.out.put)
        clear ho1 hg1 hb1 HR2 HR3 HW2 HW3 Q7 z0 z1 z2 z3 z4 z5 z6 z7 z8 t0 t1 t2 t3 t4
        obtain ⟨t0, t1, t2, t3, t4⟩ := HR4.out.2.2.2.2.1
        have f2 := HR4.out.2.2.2.1.2 2
        go_wp2_with fail
        go_roundw
        case rel => exact ⟨j + 1, Zs ++ [⟨⟨A4, c4, A5, c5, A6, x.k, c6⟩, m, k⟩], A7, c7, by omega, by go_num, HR5⟩
        case measure => simp [intOf]; omega
      · obtain rfl : j = d.s.length := by omega
        have HF := Lib.hid (HR.out.fin HQ0.out)
        obtain ⟨t0, t1, t2, t3, t4⟩ := HR.out.2.2.2.2.1
        obtain ⟨⟨e0, ef⟩, ⟨e1, e2, e3, e4, e5⟩⟩ := HR.out.2.2.1
        have f0 := ef 0
        have f1 := ef 1
        have f2 := ef 2
        have f3 := ef 3
        clear HR ef
        go_wp2_with fail
        obtain ⟨h1, h2, h3, h4⟩ := HF.out
        exact rcopy_end _ _ (B1 + 1) ⟨A1, c1, A2, c2, A3, c3, Zs⟩ d rfl h1 _ ⟨_, rfl, h2, h3, h4⟩
  refine wp_region_L [10] (S := fun w' => Hid (Sx w w' [fF B1, fD B1 ⟨G, gc, P, pc, A, c, Z⟩ d, fMz (B1 + 1), fQm ⟨G, gc, P, pc, A, c, Z⟩ d])) (by kernel_rfl) (Hsx.drew S0) (fun hHeld => ?_)
  refine wpL_reckon (i := 0) (v := ?_) rfl (by kernel_rfl) (fun _ _ _ h => h) (Or.inl ⟨by rfl, ?_⟩) (Or.inr (by assumption)) ?_
  rotate_left 1
  · intro w _; go_simp; try with_reducible rfl
  try simp only [Act.put, List.getElem_toArray, List.getElem_cons_zero, List.getElem_cons_succ, List.setIfInBounds_toArray, List.set_cons_zero, List.set_cons_succ]
  refine wpL_take (i := 1) (v := ?_) rfl (by kernel_rfl) (fun _ _ _ h => h) (Or.inl ⟨by rfl, ?_⟩) (by assumption) ?_
  rotate_left 1
  · intro w hSw; (try dsimp only at hSw); obtain ⟨-, -, ⟨y0, y1, y2, y3, y4⟩, -⟩ := hSw.out; go_simp; try with_reducible rfl
  try simp only [Act.put, List.getElem_toArray, List.getElem_cons_zero, List.getElem_cons_succ, List.setIfInBounds_toArray, List.set_cons_zero, List.set_cons_succ]
  refine wpL_reckon (i := 3) (v := ?_) rfl (by kernel_rfl) (fun _ _ _ h => h) (Or.inl ⟨by rfl, ?_⟩) (Or.inr (by assumption)) ?_
  rotate_left 1
  · intro w _; go_simp; try with_reducible rfl
  try simp only [Act.put, List.getElem_toArray, List.getElem_cons_zero, List.getElem_cons_succ, List.setIfInBounds_toArray, List.set_cons_zero, List.set_cons_succ]
  refine wpL_take (i := 4) (v := ?_) rfl (by kernel_rfl) (fun _ _ _ h => h) (Or.inl ⟨by rfl, ?_⟩) (by assumption) ?_
  rotate_left 1
  · intro w hSw; (try dsimp only at hSw); obtain ⟨-, -, ⟨y0, y1, y2, y3, y4⟩, -⟩ := hSw.out; go_simp; try with_reducible rfl
  try simp only [Act.put, List.getElem_toArray, List.getElem_cons_zero, List.getElem_cons_succ, List.setIfInBounds_toArray, List.set_cons_zero, List.set_cons_succ]
  refine wpL_reckon (i := 6) (v := ?_) rfl (by kernel_rfl) (fun _ _ _ h => h) (Or.inl ⟨by rfl, ?_⟩) (Or.inr (by assumption)) ?_
  rotate_left 1
  · intro w _; go_simp; try with_reducible rfl
  try simp only [Act.put, List.getElem_toArray, List.getElem_cons_zero, List.getElem_cons_succ, List.setIfInBounds_toArray, List.set_cons_zero, List.set_cons_succ]
  refine wpL_take (i := 7) (v := ?_) rfl (by kernel_rfl) (fun _ _ _ h => h) (Or.inl ⟨by rfl, ?_⟩) (by assumption) ?_
  rotate_left 1
  · intro w hSw; (try dsimp only at hSw); obtain ⟨-, -, ⟨y0, y1, y2, y3, y4⟩, -⟩ := hSw.out; go_simp; try with_reducible rfl
  try simp only [Act.put, List.getElem_toArray, List.getElem_cons_zero, List.getElem_cons_succ, List.setIfInBounds_toArray, List.set_cons_zero, List.set_cons_succ]
  refine wpL_ready (rs := [2, 9]) (by kernel_rfl) (by simp) ?_
  refine AllL.cons rfl (fun K hK => ?_) ?_
  · skip
    go_simp
    refine (r3copy_any G gc d.g.length d.g _ hHeld.out.2.2.2.2.1.1 rfl (by omega)).mono ?_
    rintro r wb1 ⟨A1, c1, rfl, ho, hb⟩
    have HO1 := Lib.hid (own_base ho (Nat.succ_le_of_lt hHeld.out.2.2.2.1.1.1))
    have HB1 := Lib.hid hb
    clear ho hb
    go_wp2_with fail
    refine hK.out _ _ (Hsx.call HB1.out hHeld) (fun hHeld => ?_)
    clear hK K
    try simp only [Act.put, List.getElem_toArray, List.getElem_cons_zero, List.getElem_cons_succ, List.setIfInBounds_toArray, List.set_cons_zero, List.set_cons_succ]
    refine wpL_ready (rs := [5, 9]) (by kernel_rfl) (by simp) ?_
    refine AllL.cons rfl (fun K hK => ?_) ?_
    · skip
      go_simp
      refine (r3copy_any P pc d.p.length d.p _ hHeld.out.2.2.2.2.1.2.1 rfl (by omega)).mono ?_
      rintro r wb2 ⟨A2, c2, rfl, ho, hb⟩
      have HO2 := Lib.hid (own_base ho (Nat.succ_le_of_lt hHeld.out.2.2.2.1.1.1))
      have HB2 := Lib.hid hb
      clear ho hb
      replace HO1 := Lib.hid (own_below HO1.out HB2.out (Nat.le_refl _))
      go_wp2_with fail
      refine hK.out _ _ (Hsx.call HB2.out hHeld) (fun hHeld => ?_)
      clear hK K
      try simp only [Act.put, List.getElem_toArray, List.getElem_cons_zero, List.getElem_cons_succ, List.setIfInBounds_toArray, List.set_cons_zero, List.set_cons_succ]
      refine wpL_reckon (i := 8) (v := ?_) rfl (by kernel_rfl) (fun _ _ _ h => h) (Or.inl ⟨by rfl, ?_⟩) (Or.inr (by assumption)) ?_
      rotate_left 1
      · intro w _; go_simp; try with_reducible rfl
      try simp only [Act.put, List.getElem_toArray, List.getElem_cons_zero, List.getElem_cons_succ, List.setIfInBounds_toArray, List.set_cons_zero, List.set_cons_succ]
      refine wpL_ready (rs := [9]) (by kernel_rfl) (by simp) ?_
      refine AllL.cons rfl (fun K hK => ?_) AllL.nil
      go_simp
      have HT := Lib.hid (T8.new wb2)
      have SA := Lib.hid (hHeld.out.call (new1 (w := wb2) (a := .cells #[.slice none 0 0, .slice none 0 0, .slice none 0 0, .int .i64 0] 25)))
      show K _ (wb2.alloc (.cells #[.slice none 0 0, .slice none 0 0, .slice none 0 0, .int .i64 0] 25))
      obtain ⟨T, hT⟩ : ∃ T, wb2.heap.size = T := ⟨_, rfl⟩
      have hTB : B1 + 2 ≤ T := by rw [← hT]; exact Nat.succ_le_of_lt hHeld.out.2.2.2.1.1.1
      have HT : Hid (T8 (wb2.alloc (.cells #[.slice none 0 0, .slice none 0 0, .slice none 0 0, .int .i64 0] 25)) T) := hT ▸ HT
      rw [hT]
      clear hT
      replace HO1 := Lib.hid (own_below HO1.out (new1 (w := wb2) (a := .cells #[.slice none 0 0, .slice none 0 0, .slice none 0 0, .int .i64 0] 25)) (Nat.le_refl _))
      replace HO2 := Lib.hid (own_below HO2.out (new1 (w := wb2) (a := .cells #[.slice none 0 0, .slice none 0 0, .slice none 0 0, .int .i64 0] 25)) (Nat.le_refl _))
      generalize wb2.alloc (.cells #[.slice none 0 0, .slice none 0 0, .slice none 0 0, .int .i64 0] 25) = wa2 at *
      refine hK.out _ _ (SA) (fun hHeld => ?_)
      clear hK K
      try simp only [Act.put, List.getElem_toArray, List.getElem_cons_zero, List.getElem_cons_succ, List.setIfInBounds_toArray, List.set_cons_zero, List.set_cons_succ]
      refine wpL_ready (rs := [10]) (by kernel_rfl) (by simp) ?_
      refine AllL.late rfl (by kernel_rfl) (fun K hK => ?_) AllL.nil
      have SZ := hHeld
      obtain ⟨⟨h20, h21⟩, ⟨h10, h11, h12, h13, h14⟩, -⟩ := HT.out
      have h30 := h21 0
      have h31 := h21 1
      have h32 := h21 2
      have h33 := h21 3
      clear h21
      go_simp
      refine hK.out _ _ ?_
      clear hK K
      try simp only [Act.put, List.getElem_toArray, List.getElem_cons_zero, List.getElem_cons_succ, List.setIfInBounds_toArray, List.set_cons_zero, List.set_cons_succ]
      refine wpL_done (by kernel_rfl) ?_ _
      exact TAIL _ _ _ _ _ _ (rc8_start SZ.out HBQ.out HT.out hTB HO1.out HO2.out) _ _ _ _ _ _ _ _ _ _ _
    refine AllL.cons rfl (fun K hK => ?_) AllL.nil
    go_simp
    have HT := Lib.hid (T8.new wb1)
    have SA := Lib.hid (hHeld.out.call (new1 (w := wb1) (a := .cells #[.slice none 0 0, .slice none 0 0, .slice none 0 0, .int .i64 0] 25)))
    show K _ (wb1.alloc (.cells #[.slice none 0 0, .slice none 0 0, .slice none 0 0, .int .i64 0] 25))
    obtain ⟨T, hT⟩ : ∃ T, wb1.heap.size = T := ⟨_, rfl⟩
    have hTB : B1 + 2 ≤ T := by rw [← hT]; exact Nat.succ_le_of_lt hHeld.out.2.2.2.1.1.1
    have HT : Hid (T8 (wb1.alloc (.cells #[.slice none 0 0, .slice none 0 0, .slice none 0 0, .int .i64 0] 25)) T) := hT ▸ HT
    rw [hT]
    clear hT
    replace HO1 := Lib.hid (own_below HO1.out (new1 (w := wb1) (a := .cells #[.slice none 0 0, .slice none 0 0, .slice none 0 0, .int .i64 0] 25)) (Nat.le_refl _))
    generalize wb1.alloc (.cells #[.slice none 0 0, .slice none 0 0, .slice none 0 0, .int .i64 0] 25) = wa1 at *
    refine hK.out _ _ (SA) (fun hHeld => ?_)
    clear hK K
    try simp only [Act.put, List.getElem_toArray, List.getElem_cons_zero, List.getElem_cons_succ, List.setIfInBounds_toArray, List.set_cons_zero, List.set_cons_succ]
    refine wpL_ready (rs := [5]) (by kernel_rfl) (by simp) ?_
    refine AllL.cons rfl (fun K hK => ?_) AllL.nil
    go_simp
    refine (r3copy_any P pc d.p.length d.p _ hHeld.out.2.2.2.2.1.2.1 rfl (by omega)).mono ?_
    rintro r wb2 ⟨A2, c2, rfl, ho, hb⟩
    have HO2 := Lib.hid (own_base ho (Nat.succ_le_of_lt hHeld.out.2.2.2.1.1.1))
    have HB2 := Lib.hid hb
    clear ho hb
    replace HT := Lib.hid (HT.out.keep HB2.out)
    replace HO1 := Lib.hid (own_below HO1.out HB2.out (Nat.le_refl _))
    go_wp2_with fail
    refine hK.out _ _ (Hsx.call HB2.out hHeld) (fun hHeld => ?_)
    clear hK K
    try simp only [Act.put, List.getElem_toArray, List.getElem_cons_zero, List.getElem_cons_succ, List.setIfInBounds_toArray, List.set_cons_zero, List.set_cons_succ]
    refine wpL_reckon (i := 8) (v := ?_) rfl (by kernel_rfl) (fun _ _ _ h => h) (Or.inl ⟨by rfl, ?_⟩) (Or.inr (by assumption)) ?_
    rotate_left 1
    · intro w _; go_simp; try with_reducible rfl
    try simp only [Act.put, List.getElem_toArray, List.getElem_cons_zero, List.getElem_cons_succ, List.setIfInBounds_toArray, List.set_cons_zero, List.set_cons_succ]
    refine wpL_ready (rs := [10]) (by kernel_rfl) (by simp) ?_
    refine AllL.late rfl (by kernel_rfl) (fun K hK => ?_) AllL.nil
    have SZ := hHeld
    obtain ⟨⟨h20, h21⟩, ⟨h10, h11, h12, h13, h14⟩, -⟩ := HT.out
    have h30 := h21 0
    have h31 := h21 1
    have h32 := h21 2
    have h33 := h21 3
    clear h21
    go_simp
    refine hK.out _ _ ?_
    clear hK K
    try simp only [Act.put, List.getElem_toArray, List.getElem_cons_zero, List.getElem_cons_succ, List.setIfInBounds_toArray, List.set_cons_zero, List.set_cons_succ]
    refine wpL_done (by kernel_rfl) ?_ _
    exact TAIL _ _ _ _ _ _ (rc8_start SZ.out HBQ.out HT.out hTB HO1.out HO2.out) _ _ _ _ _ _ _ _ _ _ _
  refine AllL.cons rfl (fun K hK => ?_) AllL.nil
  go_simp
  have HT := Lib.hid (T8.new w0.drew)
  have SA := Lib.hid (hHeld.out.call (new1 (w := w0.drew) (a := .cells #[.slice none 0 0, .slice none 0 0, .slice none 0 0, .int .i64 0] 25)))
  show K _ (w0.drew.alloc (.cells #[.slice none 0 0, .slice none 0 0, .slice none 0 0, .int .i64 0] 25))
  obtain ⟨T, hT⟩ : ∃ T, w0.heap.size = T := ⟨_, rfl⟩
  have hTB : B1 + 2 ≤ T := by rw [← hT]; exact Nat.succ_le_of_lt hHeld.out.2.2.2.1.1.1
  have HT : Hid (T8 (w0.drew.alloc (.cells #[.slice none 0 0, .slice none 0 0, .slice none 0 0, .int .i64 0] 25)) T) := hT ▸ HT
  rw [hT]
  clear hT
  generalize w0.drew.alloc (.cells #[.slice none 0 0, .slice none 0 0, .slice none 0 0, .int .i64 0] 25) = wa0 at *
  refine hK.out _ _ (SA) (fun hHeld => ?_)
  clear hK K
  try simp only [Act.put, List.getElem_toArray, List.getElem_cons_zero, List.getElem_cons_succ, List.setIfInBounds_toArray, List.set_cons_zero, List.set_cons_succ]
  refine wpL_ready (rs := [2]) (by kernel_rfl) (by simp) ?_
  refine AllL.cons rfl (fun K hK => ?_) AllL.nil
  go_simp
  refine (r3copy_any G gc d.g.length d.g _ hHeld.out.2.2.2.2.1.1 rfl (by omega)).mono ?_
  rintro r wb1 ⟨A1, c1, rfl, ho, hb⟩
  have HO1 := Lib.hid (own_base ho (Nat.succ_le_of_lt hHeld.out.2.2.2.1.1.1))
  have HB1 := Lib.hid hb
  clear ho hb
  replace HT := Lib.hid (HT.out.keep HB1.out)
  go_wp2_with fail
  refine hK.out _ _ (Hsx.call HB1.out hHeld) (fun hHeld => ?_)
  clear hK K
  try simp only [Act.put, List.getElem_toArray, List.getElem_cons_zero, List.getElem_cons_succ, List.setIfInBounds_toArray, List.set_cons_zero, List.set_cons_succ]
  refine wpL_ready (rs := [5]) (by kernel_rfl) (by simp) ?_
  refine AllL.cons rfl (fun K hK => ?_) AllL.nil
  go_simp
  refine (r3copy_any P pc d.p.length d.p _ hHeld.out.2.2.2.2.1.2.1 rfl (by omega)).mono ?_
  rintro r wb2 ⟨A2, c2, rfl, ho, hb⟩
  have HO2 := Lib.hid (own_base ho (Nat.succ_le_of_lt hHeld.out.2.2.2.1.1.1))
  have HB2 := Lib.hid hb
  clear ho hb
  replace HT := Lib.hid (HT.out.keep HB2.out)
  replace HO1 := Lib.hid (own_below HO1.out HB2.out (Nat.le_refl _))
  go_wp2_with fail
  refine hK.out _ _ (Hsx.call HB2.out hHeld) (fun hHeld => ?_)
  clear hK K
  try simp only [Act.put, List.getElem_toArray, List.getElem_cons_zero, List.getElem_cons_succ, List.setIfInBounds_toArray, List.set_cons_zero, List.set_cons_succ]
  refine wpL_reckon (i := 8) (v := ?_) rfl (by kernel_rfl) (fun _ _ _ h => h) (Or.inl ⟨by rfl, ?_⟩) (Or.inr (by assumption)) ?_
  rotate_left 1
  · intro w _; go_simp; try with_reducible rfl
  try simp only [Act.put, List.getElem_toArray, List.getElem_cons_zero, List.getElem_cons_succ, List.setIfInBounds_toArray, List.set_cons_zero, List.set_cons_succ]
  refine wpL_ready (rs := [10]) (by kernel_rfl) (by simp) ?_
  refine AllL.late rfl (by kernel_rfl) (fun K hK => ?_) AllL.nil
  have SZ := hHeld
  obtain ⟨⟨h20, h21⟩, ⟨h10, h11, h12, h13, h14⟩, -⟩ := HT.out
  have h30 := h21 0
  have h31 := h21 1
  have h32 := h21 2
  have h33 := h21 3
  clear h21
  go_simp
  refine hK.out _ _ ?_
  clear hK K
  try simp only [Act.put, List.getElem_toArray, List.getElem_cons_zero, List.getElem_cons_succ, List.setIfInBounds_toArray, List.set_cons_zero, List.set_cons_succ]
  refine wpL_done (by kernel_rfl) ?_ _
  exact TAIL _ _ _ _ _ _ (rc8_start SZ.out HBQ.out HT.out hTB HO1.out HO2.out) _ _ _ _ _ _ _ _ _ _ _

theorem r8copyw (y : Ma) (d : Md) (w : World) (hq : Hq w y d) (hg : qG d = false) : Calls Try.prog 8 #[dv y d] w fun r w' => ∃ t, r = .returned (dv t d) ∧ Hq w' t d ∧ Ow w' w.heap.size w'.heap.size t d ∧ Below w.heap.size w w' := by
  obtain ⟨h1, h2, h3, h4⟩ := qG_bd hq hg
  exact r8copy_v y d w hq (by omega) (by omega) (by omega) (fun z hz => by have := h4 z hz; omega)
end Go.Proofs.Ytimjnmkfbdijeaa
