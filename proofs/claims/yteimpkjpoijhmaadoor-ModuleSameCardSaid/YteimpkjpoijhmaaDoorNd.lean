/-
  Layer 8, package module: what Copy answers: the same module, in memory of its own.
-/
import Derived.Test.YteimpkjpoijhmaaDoorKl
import Derived.Test.YteimpkjpoijhmaaDoorNc
import Derived.Test.YteimpkjpoijhmaaDoorMk
namespace Go.Proofs.YteimpkjpoijhmaaDoor
open Go.RowKit
set_option maxRecDepth 100000
set_option linter.unusedSimpArgs false
set_option linter.unusedVariables false

/-- The result's cell: a module that is nothing yet. -/
abbrev fMz (B : Nat) : Fct := ⟨fun w => Mf w B ∧ Db w B Ma.zero Md.zero, fun _ _ h hb => ⟨h.1.keep hb, h.2.keep hb⟩⟩
/-- A method whose rows are the call's own. -/
def Wz (w : World) (lo : Nat) (z : Me) : Prop := (Byt z.m.a ∧ Byt z.m.l ∧ z.m.nums ∧ (∀ x ∈ z.k, InOk x) ∧ z.k.length = z.x.k) ∧ w.ownsRow lo 5 1 (.slice z.x.A z.m.a.length z.x.c) z.m.a.length (cel z.m.a) ∧
  w.ownsRow lo 5 1 (.slice z.x.B z.m.l.length z.x.d) z.m.l.length (cel z.m.l) ∧ w.ownsRow lo 86 3 (.slice z.x.D z.x.k z.x.e) z.x.k (cei z.k)
section
variable {w w' : World} {lo : Nat} {z : Me}
theorem Wz.ok (h : Wz w lo z) : z.ok w := ⟨⟨own_rd h.2.1 h.1.1, own_rd h.2.2.1 h.1.2.1, h.1.2.2.1⟩, (Ri.of_own h.2.2.2 h.1.2.2.2.1).1, h.1.2.2.2.2⟩
theorem Wz.keep (h : Wz w lo z) (hb : Below w.heap.size w w') : Wz w' lo z := ⟨h.1, own_below h.2.1 hb (Nat.le_refl _), own_below h.2.2.1 hb (Nat.le_refl _), own_below h.2.2.2 hb (Nat.le_refl _)⟩
theorem Wz.tag (h : Wz w lo z) {B k : Nat} (hB : Bk w B 49 k) (j : Nat) (u : Value) : Wz (w.setCell ⟨B, j, none⟩ u) lo z := ⟨h.1, own_tag h.2.1 hB (by decide) j u, own_tag h.2.2.1 hB (by decide) j u, own_tag h.2.2.2 hB (by decide) j u⟩
theorem Wz.ow (h : Wz w lo z) {lo2 hi : Nat} (h1 : lo2 ≤ lo) (h2 : w.heap.size ≤ hi) : Owz w lo2 hi z := ⟨Rs.of_own h.2.1 h1 h2, Rs.of_own h.2.2.1 h1 h2, Rs.of_own h.2.2.2 h1 h2⟩
end
/-- A method's cells are stored at a place. -/
def st8 (w : World) (g o : Nat) (z : Me) : World :=
  (((((((w.setCell ⟨g, o, none⟩ (.slice z.x.A z.m.a.length z.x.c)).setCell ⟨g, o + 1, none⟩ (.slice z.x.B z.m.l.length z.x.d)).setCell ⟨g, o + 2, none⟩ (.int .u8 z.m.r)).setCell ⟨g, o + 3, none⟩ (.bool z.m.q)).setCell ⟨g, o + 4, none⟩ (.int .i64 z.m.f)).setCell ⟨g, o + 5, none⟩ (.int .i64 z.m.s)).setCell ⟨g, o + 6, none⟩ (.int .i64 z.m.h)).setCell ⟨g, o + 7, none⟩ (.slice z.x.D z.x.k z.x.e)
/-- Whatever a store to the block keeps. -/
theorem st8_keep {p : World → Prop} {w : World} {g : Nat} (hp : p w) (h : ∀ w' j u, p w' → p (w'.setCell ⟨g, j, none⟩ u)) (o : Nat) (z : Me) : p (st8 w g o z) := h _ _ _ (h _ _ _ (h _ _ _ (h _ _ _ (h _ _ _ (h _ _ _ (h _ _ _ (h _ _ _ hp)))))))
theorem cem_put (T R : List Me) (z z' : Me) : ((((((((cem (T ++ z :: R)).set (T.length * 8) (.slice z'.x.A z'.m.a.length z'.x.c)).set (T.length * 8 + 1) (.slice z'.x.B z'.m.l.length z'.x.d)).set (T.length * 8 + 2) (.int .u8 z'.m.r)).set (T.length * 8 + 3) (.bool z'.m.q)).set (T.length * 8 + 4) (.int .i64 z'.m.f)).set (T.length * 8 + 5) (.int .i64 z'.m.s)).set (T.length * 8 + 6) (.int .i64 z'.m.h)).set (T.length * 8 + 7) (.slice z'.x.D z'.x.k z'.x.e) = cem ((T ++ [z']) ++ R) := by
  have e : cem (T ++ z :: R) = cem T ++ (ce8 z ++ cem R) := by simp [cem]
  have e2 : cem ((T ++ [z']) ++ R) = cem T ++ (ce8 z' ++ cem R) := by simp [cem]
  have hl := length_cem T
  have k : ∀ (L : List Value) (i : Nat) (u : Value), (cem T ++ L).set (T.length * 8 + i) u = cem T ++ L.set i u := fun L i u => by
    rw [List.set_append_right _ _ (by rw [hl]; omega), hl, show T.length * 8 + i - T.length * 8 = i by omega]
  have k0 : ∀ (L : List Value) (u : Value), (cem T ++ L).set (T.length * 8) u = cem T ++ L.set 0 u := fun L u => k L 0 u
  rw [e, e2, k0, k, k, k, k, k, k, k]
  rfl
theorem st8_own {w : World} {base g cap n : Nat} {T R : List Me} {z : Me} (h : w.ownsRow base 49 8 (.slice (some ⟨g, 0, none⟩) n cap) n (cem (T ++ z :: R))) (z' : Me) : (st8 w g (T.length * 8) z').ownsRow base 49 8 (.slice (some ⟨g, 0, none⟩) n cap) n (cem ((T ++ [z']) ++ R)) := by
  have := ((((((((((((((((h.stored (T.length * 8) (.slice z'.x.A z'.m.a.length z'.x.c)).1).stored (T.length * 8 + 1) (.slice z'.x.B z'.m.l.length z'.x.d)).1).stored (T.length * 8 + 2) (.int .u8 z'.m.r)).1).stored (T.length * 8 + 3) (.bool z'.m.q)).1).stored (T.length * 8 + 4) (.int .i64 z'.m.f)).1).stored (T.length * 8 + 5) (.int .i64 z'.m.s)).1).stored (T.length * 8 + 6) (.int .i64 z'.m.h)).1).stored (T.length * 8 + 7) (.slice z'.x.D z'.x.k z'.x.e)).1)
  rw [cem_put] at this
  exact this
/-- The block of a row of the call's own. -/
theorem own_bk {w : World} {base e size n g cap : Nat} {xs : List Value} (h : w.ownsRow base e size (.slice (some ⟨g, 0, none⟩) n cap) n xs) : (∃ k, Bk w g e k) ∧ base ≤ g := by
  rcases h.2 with ⟨hv, _⟩ | ⟨g', cap', cur, hv, hg, hb, _⟩
  · cases hv
  · injection hv with e1 _ _
    injection e1 with e1
    injection e1 with e1
    subst e1
    exact ⟨⟨cur.size, cur, hb, rfl⟩, hg⟩
/-- Amid Copy: T are the methods so far. -/
def Cp8 (w : World) (B1 : Nat) (y1 : Ma) (d : Md) (T R : List Me) (wr : World) : Prop :=
  Below B1 w wr ∧ Db wr B1 y1 d ∧ (Mf wr (B1 + 1) ∧ Db wr (B1 + 1) Ma.zero Md.zero) ∧ wr.ownsRow (B1 + 2) 67 3 (.slice y1.G d.g.length y1.gc) d.g.length (cev d.g) ∧ wr.ownsRow (B1 + 2) 67 3 (.slice y1.P d.p.length y1.pc) d.p.length (cev d.p) ∧
  wr.ownsRow (B1 + 2) 49 8 (.slice y1.A d.s.length y1.c) d.s.length (cem (T ++ R)) ∧ (∀ z ∈ T, Wz wr (B1 + 2) z) ∧ (T ++ R).map ze = d.s ∧ B1 + 2 ≤ wr.heap.size
section
variable {w wr w' : World} {B1 : Nat} {y1 : Ma} {d : Md} {T R : List Me}
theorem Cp8.call (h : Cp8 w B1 y1 d T R wr) (hb : Below wr.heap.size wr w') : Cp8 w B1 y1 d T R w' := by
  obtain ⟨h1, h2, h3, h4, h5, h6, h7, h8, h9⟩ := h
  exact ⟨h1.trans (hb.mono (by omega)), h2.keep hb, ⟨h3.1.keep hb, h3.2.keep hb⟩, own_below h4 hb (Nat.le_refl _), own_below h5 hb (Nat.le_refl _), own_below h6 hb (Nat.le_refl _), fun z hz => (h7 z hz).keep hb, h8, Nat.le_trans h9 hb.size⟩
theorem Cp8.put {z z' : Me} {g : Nat} (h : Cp8 w B1 y1 d T (z :: R) wr) (hg : y1.A = some ⟨g, 0, none⟩) (hz : ze z' = ze z) (hw : Wz wr (B1 + 2) z') : Cp8 w B1 y1 d (T ++ [z']) R (st8 wr g (T.length * 8) z') := by
  obtain ⟨h1, h2, h3, h4, h5, h6, h7, h8, h9⟩ := h
  rw [hg] at h6
  obtain ⟨⟨k, hk⟩, hgB⟩ := own_bk h6
  have key : ∀ v : World, Bk v g 49 k → ∀ j u, Bk (v.setCell ⟨g, j, none⟩ u) g 49 k := fun v hv j u => hv.set g j u
  refine ⟨?_, ?_, ?_, ?_, ?_, ?_, ?_, ?_, ?_⟩
  · exact st8_keep (p := fun v => Below B1 w v) h1 (fun v j u hv => hv.setCell (show B1 ≤ g by omega) u) _ _
  · exact st8_keep (p := fun v => Db v B1 y1 d) h2 (fun v j u hv => hv.other (show g ≠ B1 by omega) u) _ _
  · exact ⟨st8_keep (p := fun v => Mf v (B1 + 1)) h3.1 (fun v j u hv => hv.set _ _) _ _, st8_keep (p := fun v => Db v (B1 + 1) Ma.zero Md.zero) h3.2 (fun v j u hv => hv.other (show g ≠ B1 + 1 by omega) u) _ _⟩
  · exact (st8_keep (p := fun v => v.ownsRow (B1 + 2) 67 3 (.slice y1.G d.g.length y1.gc) d.g.length (cev d.g) ∧ Bk v g 49 k) ⟨h4, hk⟩ (fun v j u hv => ⟨own_tag hv.1 hv.2 (by decide) j u, key v hv.2 j u⟩) _ _).1
  · exact (st8_keep (p := fun v => v.ownsRow (B1 + 2) 67 3 (.slice y1.P d.p.length y1.pc) d.p.length (cev d.p) ∧ Bk v g 49 k) ⟨h5, hk⟩ (fun v j u hv => ⟨own_tag hv.1 hv.2 (by decide) j u, key v hv.2 j u⟩) _ _).1
  · rw [hg]
    exact st8_own h6 z'
  · intro t ht
    have h0 : Wz wr (B1 + 2) t := by
      rcases List.mem_append.1 ht with ht | ht
      · exact h7 t ht
      · rw [List.mem_singleton.1 ht]; exact hw
    exact (st8_keep (p := fun v => Wz v (B1 + 2) t ∧ Bk v g 49 k) ⟨h0, hk⟩ (fun v j u hv => ⟨hv.1.tag hv.2 j u, key v hv.2 j u⟩) _ _).1
  · rw [← h8, List.append_assoc]
    simp only [List.map_append, List.map_cons, List.singleton_append, hz]
  · exact st8_keep (p := fun v => B1 + 2 ≤ v.heap.size) h9 (fun v j u hv => by simpa using hv) _ _
end
theorem row_at {w : World} {base g cap n j : Nat} {T R : List Me} {z : Me} (h : w.ownsRow base 49 8 (.slice (some ⟨g, 0, none⟩) n cap) n (cem (T ++ z :: R))) (hT : T.length = j) (hn : n = (T ++ z :: R).length) :
    (∀ i u, i < 8 → (ce8 z)[i]? = some u → w.cell? ⟨g, j * 8 + i, none⟩ = some u) ∧ ∀ i, i < 8 → w.frozen? ⟨g, j * 8 + i, none⟩ = false := by
  subst hT
  refine ⟨fun i u hi hu => ?_, fun i hi => h.frozenAt _⟩
  have e : (T ++ z :: R)[T.length]? = some z := by simp
  have hl : T.length * 8 + i < n * 8 := by rw [hn]; simp; omega
  rw [h.cellAt (T.length * 8 + i) hl, cem_at e i hi]
  exact hu
theorem Db.set3 {w : World} {B : Nat} {y : Ma} {d : Md} (h : Db w B y d) (A1 A2 A3 : Option Addr) (c1 c2 c3 : Nat) (Z : List Me) : Db (((w.setCell ⟨B, 0, none⟩ (.slice A1 d.g.length c1)).setCell ⟨B, 1, none⟩ (.slice A2 d.p.length c2)).setCell ⟨B, 2, none⟩ (.slice A3 d.s.length c3)) B ⟨A1, c1, A2, c2, A3, c3, Z⟩ d := by
  obtain ⟨h0, h1, h2, h3, h4⟩ := h
  refine ⟨by simpa using h0, ?_, ?_, ?_, ?_⟩ <;> simp [go_sem, h1, h2, h3, h4]
theorem put4_own {w : World} {N B e size n : Nat} {v : Value} {xs : List Value} (h : w.ownsRow N e size v n xs) (hB : B < N) (y : Ma) (d : Md) : (put4 w B y d).ownsRow N e size v n xs :=
  ownsRow_setCell_below (ownsRow_setCell_below (ownsRow_setCell_below (ownsRow_setCell_below h hB _) hB _) hB _) hB _
theorem Wz.put4 {w : World} {lo B : Nat} {z : Me} (h : Wz w lo z) (hB : B < lo) (y : Ma) (d : Md) : Wz (put4 w B y d) lo z := ⟨h.1, put4_own h.2.1 hB y d, put4_own h.2.2.1 hB y d, put4_own h.2.2.2 hB y d⟩
theorem mcopy_end (tm : Array Value) (w' : World) (T : Nat) (y : Ma) (d : Md) (hT : tm[2]?.getD undef = .pointer (some ⟨T, 0, none⟩)) (hM : Db w' T y d) (R : Ending → World → Prop)
    (hR : R (.returned (dv y d)) w') : bodyPost Tryd.prog Tryd.f24 R .ret { tmps := tm, defers := [] } w' := by
  obtain ⟨h0, c1, c2, c3, c4⟩ := hM
  exact bodyPost_ret (v := dv y d) (by simp [results, Tryd.results24, go_sem, hT, c1, c2, c3, c4]) rfl hR
theorem size_put4 (w : World) (B : Nat) (y : Ma) (d : Md) : (put4 w B y d).heap.size = w.heap.size := by simp [put4]
/-- Copy's end. -/
theorem Cp8.fin {w wr : World} {B1 : Nat} {y1 : Ma} {d : Md} {T : List Me} (h : Cp8 w B1 y1 d T [] wr) (hB : w.heap.size = B1) (hg : ∀ x ∈ d.g, VlOk x) (hp : ∀ x ∈ d.p, VlOk x) (hi : -9223372036854775808 ≤ d.i ∧ d.i ≤ 9223372036854775807) :
    Db (put4 wr (B1 + 1) y1 d) (B1 + 1) { y1 with Z := T } d ∧ Hq (put4 wr (B1 + 1) y1 d) { y1 with Z := T } d ∧ Ow (put4 wr (B1 + 1) y1 d) w.heap.size (put4 wr (B1 + 1) y1 d).heap.size { y1 with Z := T } d ∧ Below w.heap.size w (put4 wr (B1 + 1) y1 d) := by
  obtain ⟨h1, h2, h3, h4, h5, h6, h7, h8, h9⟩ := h
  rw [List.append_nil] at h6 h8
  have k4 := put4_own h4 (show B1 + 1 < B1 + 2 by omega) y1 d
  have k5 := put4_own h5 (show B1 + 1 < B1 + 2 by omega) y1 d
  have k6 := put4_own h6 (show B1 + 1 < B1 + 2 by omega) y1 d
  have k7 : ∀ z ∈ T, Wz (put4 wr (B1 + 1) y1 d) (B1 + 2) z := fun z hz => (h7 z hz).put4 (by omega) y1 d
  refine ⟨put4_db h3.2 y1 d, ⟨(Rv.of_own k4 hg).1, (Rv.of_own k5 hp).1, (Rm.of_own k6 (fun z hz => (k7 z hz).ok)).1, h8, hi⟩, ⟨Rs.of_own k4 (by omega) (Nat.le_refl _), Rs.of_own k5 (by omega) (Nat.le_refl _), Rs.of_own k6 (by omega) (Nat.le_refl _), fun z hz => (k7 z hz).ow (by omega) (Nat.le_refl _)⟩, ?_⟩
  rw [hB]
  exact put4_below h1 (by omega) y1 d
theorem Mb.new3 {w : World} {B : Nat} {x : Mc} {m : Mh} (h : Mb w B x m) (A1 A2 A3 : Option Addr) (c1 c2 c3 : Nat) : Mb (((w.setCell ⟨B, 0, none⟩ (.slice A1 m.a.length c1)).setCell ⟨B, 1, none⟩ (.slice A2 m.l.length c2)).setCell ⟨B, 7, none⟩ (.slice A3 x.k c3)) B ⟨A1, c1, A2, c2, A3, x.k, c3⟩ m := by
  obtain ⟨h0, h1, h2, h3, h4, h5, h6, h7, h8⟩ := h
  refine ⟨by simpa using h0, ?_, ?_, ?_, ?_, ?_, ?_, ?_, ?_⟩ <;> simp [go_sem, h1, h2, h3, h4, h5, h6, h7, h8]
theorem Mh.same_ze (x x' : Mc) (m : Mh) (k : List Ins) : ze ⟨x', m, k⟩ = ze ⟨x, m, k⟩ := rfl
abbrev fOk (z : Me) : Fct := ⟨fun w => z.ok w, fun _ _ h hb => h.keep hb⟩
theorem wz_new {wr wb4 wb5 wb6 : World} {Tb B2 : Nat} {x : Mc} {m : Mh} {k : List Ins} {A4 A5 A6 : Option Addr} {c4 c5 c6 : Nat} {L : List Fct} (h1 : Byt m.a ∧ Byt m.l ∧ m.nums ∧ (∀ x ∈ k, InOk x)) (h2 : k.length = x.k) (h3 : Hid (wr.heap.size = Tb)) (SY : Hid (Sx wr wb6 L))
    (o4 : wb4.ownsRow (Tb + 1) 5 1 (.slice A4 m.a.length c4) m.a.length (cel m.a)) (o5 : wb5.ownsRow (Tb + 1) 5 1 (.slice A5 m.l.length c5) m.l.length (cel m.l)) (o6 : wb6.ownsRow (Tb + 1) 86 3 (.slice A6 x.k c6) x.k (cei k)) (b5 : Below wb4.heap.size wb4 wb5) (b6 : Below wb5.heap.size wb5 wb6) (hT : B2 ≤ Tb) :
    Hid (Wz (((wb6.setCell ⟨Tb, 0, none⟩ (.slice A4 m.a.length c4)).setCell ⟨Tb, 1, none⟩ (.slice A5 m.l.length c5)).setCell ⟨Tb, 7, none⟩ (.slice A6 x.k c6)) B2 ⟨⟨A4, c4, A5, c5, A6, x.k, c6⟩, m, k⟩) := by
  have lt : ∀ i, (⟨Tb, i, none⟩ : Addr).block < Tb + 1 := fun i => by show Tb < Tb + 1; omega
  have k4 := own_below (own_below o4 b5 (Nat.le_refl _)) b6 (Nat.le_refl _)
  have k5 := own_below o5 b6 (Nat.le_refl _)
  refine ⟨⟨h1.1, h1.2.1, h1.2.2.1, h1.2.2.2, h2⟩, ?_, ?_, ?_⟩
  · exact own_base (ownsRow_setCell_below (ownsRow_setCell_below (ownsRow_setCell_below k4 (lt 0) _) (lt 1) _) (lt 7) _) (by omega)
  · exact own_base (ownsRow_setCell_below (ownsRow_setCell_below (ownsRow_setCell_below k5 (lt 0) _) (lt 1) _) (lt 7) _) (by omega)
  · exact own_base (ownsRow_setCell_below (ownsRow_setCell_below (ownsRow_setCell_below o6 (lt 0) _) (lt 1) _) (lt 7) _) (by omega)
set_option maxHeartbeats 8000000 in
theorem mcopy_v (y : Ma) (d : Md) (w : World) (hq : Hq w y d) (b1 : d.g.length ≤ 1000000) (b2 : d.p.length ≤ 1000000) (b3 : d.s.length ≤ 1000000) (b4 : ∀ z ∈ y.Z, z.m.a.length ≤ 1000000 ∧ z.m.l.length ≤ 1000000 ∧ z.x.k ≤ 1000000) :
    Calls Tryd.prog 24 #[dv y d] w fun r w' => ∃ t, r = .returned (dv t d) ∧ Hq w' t d ∧ Ow w' w.heap.size w'.heap.size t d ∧ Below w.heap.size w w' := by
  have hzl := hq.zlen
  have S0 : Hid (Sx w ((w.alloc (dcel y d)).alloc (dcel Ma.zero Md.zero)) [fF w.heap.size, fD w.heap.size y d, fMz (w.heap.size + 1), fQm y d]) := by
    have h1 := (((Sx.start w).add (fQm y d) hq).mkD y d).mkD Ma.zero Md.zero
    have h2 := Db.new (w.alloc (dcel y d)) Ma.zero Md.zero
    have h3 := Mf.new (w.alloc (dcel y d)) #[.slice none 0 0, .slice none 0 0, .slice none 0 0, .int .i64 0] 25
    rw [size1] at h1 h2 h3
    exact ⟨h1.1, (Mf.new w _ _).keep new1, h1.2.2.1, ⟨h3, h2⟩, h1.2.2.2⟩
  have HZ0 := Lib.hid (hq.2.2.1.1)
  have HZE : Hid (([] ++ y.Z).map ze = d.s) := by rw [Hid, List.nil_append]; exact hq.2.2.2.1
  have HVG := Lib.hid (And.intro hq.1.1 (And.intro hq.2.1.1 hq.2.2.2.2))
  have HB4 := Lib.hid b4
  clear hq b4
  go_enter Tryd.func24, Tryd.ntmps24
  go_upto_region 1 with (fail)
  have S0' : Hid (Sx w ((w.alloc (.cells #[.slice y.G d.g.length y.gc, .slice y.P d.p.length y.pc, .slice y.A d.s.length y.c, .int .i64 d.i] 25)).alloc (.cells #[.slice none 0 0, .slice none 0 0, .slice none 0 0, .int .i64 0] 25)) [fF w.heap.size, fD w.heap.size y d, fMz (w.heap.size + 1), fQm y d]) := S0
  clear S0
  generalize (w.alloc (.cells #[.slice y.G d.g.length y.gc, .slice y.P d.p.length y.pc, .slice y.A d.s.length y.c, .int .i64 d.i] 25)).alloc (.cells #[.slice none 0 0, .slice none 0 0, .slice none 0 0, .int .i64 0] 25) = w0 at *
  have S0 := S0'
  clear S0'
  obtain ⟨B1, hB1⟩ : ∃ B, w.heap.size = B := ⟨_, rfl⟩
  have HBQ := Lib.hid hB1
  rw [hB1] at S0 ⊢
  clear hB1
  refine wp_region_L [10, 12, 14] (S := fun w' => Hid (Sx w w' [fF B1, fD B1 y d, fMz (B1 + 1), fQm y d])) (by kernel_rfl) (Hsx.drew S0) (fun hHeld => ?_)
  refine wpL_reckon (i := 0) (v := ?_) rfl (by kernel_rfl) (fun _ _ _ h => h) (Or.inl ⟨by rfl, ?_⟩) (Or.inr (by assumption)) ?_
  rotate_left 1
  · intro w _; go_simp; try with_reducible rfl
  try simp only [Act.put, List.getElem_toArray, List.getElem_cons_zero, List.getElem_cons_succ, List.setIfInBounds_toArray, List.set_cons_zero, List.set_cons_succ]
  refine wpL_take (i := 1) (v := ?_) rfl (by kernel_rfl) (fun _ _ _ h => h) (Or.inl ⟨by rfl, ?_⟩) (by assumption) ?_
  rotate_left 1
  · intro w hSw; (try dsimp only at hSw); obtain ⟨-, -, ⟨y0, y1, y2, y3, y4⟩, -⟩ := hSw.out; go_simp; try with_reducible rfl
  try simp only [Act.put, List.getElem_toArray, List.getElem_cons_zero, List.getElem_cons_succ, List.setIfInBounds_toArray, List.set_cons_zero, List.set_cons_succ]
  refine wpL_reckon (i := 3) (v := ?_) rfl (by kernel_rfl) (fun _ _ _ h => h) (Or.inl ⟨by rfl, ?_⟩) (Or.inr (by assumption)) ?_
  rotate_left 1
  · intro w _; go_simp; try with_reducible rfl
  try simp only [Act.put, List.getElem_toArray, List.getElem_cons_zero, List.getElem_cons_succ, List.setIfInBounds_toArray, List.set_cons_zero, List.set_cons_succ]
  refine wpL_take (i := 4) (v := ?_) rfl (by kernel_rfl) (fun _ _ _ h => h) (Or.inl ⟨by rfl, ?_⟩) (by assumption) ?_
  rotate_left 1
  · intro w hSw; (try dsimp only at hSw); obtain ⟨-, -, ⟨y0, y1, y2, y3, y4⟩, -⟩ := hSw.out; go_simp; try with_reducible rfl
  try simp only [Act.put, List.getElem_toArray, List.getElem_cons_zero, List.getElem_cons_succ, List.setIfInBounds_toArray, List.set_cons_zero, List.set_cons_succ]
  refine wpL_reckon (i := 6) (v := ?_) rfl (by kernel_rfl) (fun _ _ _ h => h) (Or.inl ⟨by rfl, ?_⟩) (Or.inr (by assumption)) ?_
  rotate_left 1
  · intro w _; go_simp; try with_reducible rfl
  try simp only [Act.put, List.getElem_toArray, List.getElem_cons_zero, List.getElem_cons_succ, List.setIfInBounds_toArray, List.set_cons_zero, List.set_cons_succ]
  refine wpL_take (i := 7) (v := ?_) rfl (by kernel_rfl) (fun _ _ _ h => h) (Or.inl ⟨by rfl, ?_⟩) (by assumption) ?_
  rotate_left 1
  · intro w hSw; (try dsimp only at hSw); obtain ⟨-, -, ⟨y0, y1, y2, y3, y4⟩, -⟩ := hSw.out; go_simp; try with_reducible rfl
  try simp only [Act.put, List.getElem_toArray, List.getElem_cons_zero, List.getElem_cons_succ, List.setIfInBounds_toArray, List.set_cons_zero, List.set_cons_succ]
  refine wpL_ready (rs := [2]) (by kernel_rfl) (by simp) ?_
  refine AllL.cons rfl (fun K hK => ?_) AllL.nil
  go_simp
  refine (cloneV_v y.G y.gc _ d.g _ hHeld.out.2.2.2.2.1.1 rfl (by omega)).mono ?_
  rintro r wb1 ⟨A1, c1, rfl, ho, hb⟩
  have HO1 := Lib.hid (own_base ho (Nat.succ_le_of_lt hHeld.out.2.2.2.1.1.1))
  have HB1 := Lib.hid hb
  clear ho hb
  go_wp2_with fail
  refine hK.out _ _ (Hsx.call HB1.out hHeld) (fun hHeld => ?_)
  clear hK K
  try simp only [Act.put, List.getElem_toArray, List.getElem_cons_zero, List.getElem_cons_succ, List.setIfInBounds_toArray, List.set_cons_zero, List.set_cons_succ]
  refine wpL_reckon (i := 9) (v := ?_) rfl (by kernel_rfl) (fun _ _ _ h => h) (Or.inl ⟨by rfl, ?_⟩) (Or.inr (by assumption)) ?_
  rotate_left 1
  · intro w _; go_simp; try with_reducible rfl
  try simp only [Act.put, List.getElem_toArray, List.getElem_cons_zero, List.getElem_cons_succ, List.setIfInBounds_toArray, List.set_cons_zero, List.set_cons_succ]
  refine wpL_ready (rs := [5]) (by kernel_rfl) (by simp) ?_
  refine AllL.cons rfl (fun K hK => ?_) AllL.nil
  go_simp
  refine (cloneV_v y.P y.pc _ d.p _ hHeld.out.2.2.2.2.1.2.1 rfl (by omega)).mono ?_
  rintro r wb2 ⟨A2, c2, rfl, ho, hb⟩
  have HO2 := Lib.hid (own_base ho (Nat.succ_le_of_lt hHeld.out.2.2.2.1.1.1))
  have HB2 := Lib.hid hb
  clear ho hb
  go_wp2_with fail
  refine hK.out _ _ (Hsx.call HB2.out hHeld) (fun hHeld => ?_)
  clear hK K
  try simp only [Act.put, List.getElem_toArray, List.getElem_cons_zero, List.getElem_cons_succ, List.setIfInBounds_toArray, List.set_cons_zero, List.set_cons_succ]
  refine wpL_ready (rs := [8]) (by kernel_rfl) (by simp) ?_
  refine AllL.cons rfl (fun K hK => ?_) AllL.nil
  go_simp
  refine (cloneM_v y.A y.c _ y.Z _ hHeld.out.2.2.2.2.1.2.2.1 hzl (by omega)).mono ?_
  rintro r wb3 ⟨A3, c3, rfl, ho, hb⟩
  have HO3 := Lib.hid (own_base ho (Nat.succ_le_of_lt hHeld.out.2.2.2.1.1.1))
  have HB3 := Lib.hid hb
  clear ho hb
  have SZ := Lib.hid (hHeld.out.call HB3.out)
  obtain ⟨-, ⟨g0, gf⟩, ⟨y0, y1, y2, y3, y4⟩, -⟩ := SZ.out
  have f0 := gf 0
  have f1 := gf 1
  have f2 := gf 2
  clear gf
  go_wp2_with fail
  refine hK.out _ _ (SZ) (fun hHeld => ?_)
  clear hK K
  try simp only [Act.put, List.getElem_toArray, List.getElem_cons_zero, List.getElem_cons_succ, List.setIfInBounds_toArray, List.set_cons_zero, List.set_cons_succ]
  refine wpL_ready (rs := [10]) (by kernel_rfl) (by simp) ?_
  refine AllL.late rfl (by kernel_rfl) (fun K hK => ?_) AllL.nil
  go_simp
  refine hK.out _ _ ?_
  clear hK K
  try simp only [Act.put, List.getElem_toArray, List.getElem_cons_zero, List.getElem_cons_succ, List.setIfInBounds_toArray, List.set_cons_zero, List.set_cons_succ]
  refine wpL_reckon (i := 11) (v := ?_) rfl (by kernel_rfl) (fun _ _ _ h => h) (Or.inl ⟨by rfl, ?_⟩) (Or.inl (by kernel_rfl)) ?_
  rotate_left 1
  · intro w _; go_simp; try with_reducible rfl
  try simp only [Act.put, List.getElem_toArray, List.getElem_cons_zero, List.getElem_cons_succ, List.setIfInBounds_toArray, List.set_cons_zero, List.set_cons_succ]
  refine wpL_ready (rs := [12]) (by kernel_rfl) (by simp) ?_
  refine AllL.late rfl (by kernel_rfl) (fun K hK => ?_) AllL.nil
  go_simp
  refine hK.out _ _ ?_
  clear hK K
  try simp only [Act.put, List.getElem_toArray, List.getElem_cons_zero, List.getElem_cons_succ, List.setIfInBounds_toArray, List.set_cons_zero, List.set_cons_succ]
  refine wpL_reckon (i := 13) (v := ?_) rfl (by kernel_rfl) (fun _ _ _ h => h) (Or.inl ⟨by rfl, ?_⟩) (Or.inl (by kernel_rfl)) ?_
  rotate_left 1
  · intro w _; go_simp; try with_reducible rfl
  try simp only [Act.put, List.getElem_toArray, List.getElem_cons_zero, List.getElem_cons_succ, List.setIfInBounds_toArray, List.set_cons_zero, List.set_cons_succ]
  refine wpL_ready (rs := [14]) (by kernel_rfl) (by simp) ?_
  refine AllL.late rfl (by kernel_rfl) (fun K hK => ?_) AllL.nil
  go_simp
  refine hK.out _ _ ?_
  clear hK K
  try simp only [Act.put, List.getElem_toArray, List.getElem_cons_zero, List.getElem_cons_succ, List.setIfInBounds_toArray, List.set_cons_zero, List.set_cons_succ]
  refine wpL_done (by kernel_rfl) ?_ _
  have HC0 : Hid (Cp8 w B1 ⟨A1, c1, A2, c2, A3, c3, []⟩ d [] y.Z (((wb3.setCell ⟨B1, 0, none⟩ (.slice A1 d.g.length c1)).setCell ⟨B1, 1, none⟩ (.slice A2 d.p.length c2)).setCell ⟨B1, 2, none⟩ (.slice A3 d.s.length c3))) := by
    have o1 := own_below (own_below HO1.out HB2.out (Nat.le_refl _)) HB3.out (Nat.le_refl _)
    have o2 := own_below HO2.out HB3.out (Nat.le_refl _)
    have o3 := HO3.out
    obtain ⟨s1, s2, s3, s4, -⟩ := SZ.out
    rw [HBQ.out] at s1
    have ne : ∀ i, (⟨B1, i, none⟩ : Addr).block ≠ B1 + 1 := fun i => by show B1 ≠ B1 + 1; omega
    have lt : ∀ i, (⟨B1, i, none⟩ : Addr).block < B1 + 2 := fun i => by show B1 < B1 + 2; omega
    refine ⟨((s1.setCell (p := ⟨B1, 0, none⟩) (Nat.le_refl _) _).setCell (p := ⟨B1, 1, none⟩) (Nat.le_refl _) _).setCell (p := ⟨B1, 2, none⟩) (Nat.le_refl _) _, s3.set3 A1 A2 A3 c1 c2 c3 [], ⟨((s4.1.set _ _).set _ _).set _ _, ((s4.2.other (ne 0) _).other (ne 1) _).other (ne 2) _⟩, ?_, ?_, ?_, fun z hz => (by cases hz), HZE.out, by simp; exact s4.1.1⟩
    · exact ownsRow_setCell_below (ownsRow_setCell_below (ownsRow_setCell_below o1 (lt 0) _) (lt 1) _) (lt 2) _
    · exact ownsRow_setCell_below (ownsRow_setCell_below (ownsRow_setCell_below o2 (lt 0) _) (lt 1) _) (lt 2) _
    · exact ownsRow_setCell_below (ownsRow_setCell_below (ownsRow_setCell_below o3 (lt 0) _) (lt 1) _) (lt 2) _
  clear HO1 HO2 HO3 HB1 HB2 HB3 SZ S0 hHeld g0 y0 y1 y2 y3 y4 f0 f1 f2
  generalize ((wb3.setCell ⟨B1, 0, none⟩ (.slice A1 d.g.length c1)).setCell ⟨B1, 1, none⟩ (.slice A2 d.p.length c2)).setCell ⟨B1, 2, none⟩ (.slice A3 d.s.length c3) = w4 at HC0 ⊢
  obtain ⟨y0, y1, y2, y3, y4⟩ := HC0.out.2.1
  dsimp only at y1 y2 y3
  go_wp2_with fail
  clear y0 y1 y2 y3 y4
  go_loopw [20] (fun i wr => ∃ (j : Nat) (T R : List Me), j ≤ d.s.length ∧ T.length = j ∧ R = y.Z.drop j ∧ i = .int .i64 j ∧ Hid (Cp8 w B1 ⟨A1, c1, A2, c2, A3, c3, []⟩ d T R wr)) (fun i _ => d.s.length - (intOf i).toNat)
  case atStart => exact ⟨0, [], y.Z, by omega, rfl, rfl, rfl, HC0⟩
  case round =>
    obtain ⟨j, T, R, hj, hTL, hR, rfl, HC⟩ := hrel
    clear HC0
    by_cases h1 : j < d.s.length
    · have h1z : j < y.Z.length := by omega
      rw [List.drop_eq_getElem_cons h1z] at hR
      have HZB := Lib.hid (HB4.out _ (List.getElem_mem h1z))
      have HZK := Lib.hid (HZ0.out _ (List.getElem_mem h1z))
      have hnL : d.s.length = (T ++ R).length := by rw [← HC.out.2.2.2.2.2.2.2.1, List.length_map]
      subst hR
      generalize y.Z[j] = z at *
      obtain ⟨x, m, k⟩ := z
      obtain ⟨q1, q2, q3⟩ := HZB.out
      dsimp only at q1 q2 q3
      have HOKr := Lib.hid (Me.ok.keep HZK.out (HBQ.out ▸ HC.out.1))
      have HKX : Hid (k.length = x.k) := HZK.out.2.2
      have HNUM := Lib.hid (And.intro HZK.out.1.1.byt (And.intro HZK.out.1.2.1.byt (And.intro HZK.out.1.2.2 HZK.out.2.1.1)))
      clear HZB HZK
      have hpos : 0 < d.s.length := by omega
      obtain ⟨g, hgA⟩ : ∃ g, A3 = some ⟨g, 0, none⟩ := by
        rcases HC.out.2.2.2.2.2.1.2 with ⟨_, h0⟩ | ⟨g, _, _, hv, _⟩
        · omega
        · injection hv with e1 _ _
          exact ⟨g, e1⟩
      subst hgA
      have hrow := row_at HC.out.2.2.2.2.2.1 hTL hnL
      obtain ⟨hr1, -⟩ := hrow
      have x0 := hr1 0 _ (by omega) rfl
      rw [Nat.add_zero] at x0
      have x1 := hr1 1 _ (by omega) rfl
      have x2 := hr1 2 _ (by omega) rfl
      have x3 := hr1 3 _ (by omega) rfl
      have x4 := hr1 4 _ (by omega) rfl
      have x5 := hr1 5 _ (by omega) rfl
      have x6 := hr1 6 _ (by omega) rfl
      have x7 := hr1 7 _ (by omega) rfl
      clear hr1
      have S5 := Lib.hid (((Sx.start wr).add (fOk ⟨x, m, k⟩) HOKr.out).mkMF x m)
      clear HOKr
      have HNL := Lib.hid hnL
      have HTL := Lib.hid hTL
      clear hnL hTL
      go_upto_region 5 with (fail)
      obtain ⟨wb, hwb⟩ : ∃ wb, wr.alloc (hcel x m) = wb := ⟨_, rfl⟩
      rw [hwb] at S5
      rw [hcel] at hwb
      rw [hwb]
      obtain ⟨Tb, hTb⟩ : ∃ Tb, wr.heap.size = Tb := ⟨_, rfl⟩
      rw [hTb] at S5 ⊢
      have HTb := Lib.hid hTb
      have hTB : B1 + 2 ≤ Tb := by have := HC.out.2.2.2.2.2.2.2.2; omega
      clear hwb x0 x1 x2 x3 x4 x5 x6 x7
      refine wp_region_L [10, 12, 14] (S := fun w' => Hid (Sx wr w' [fF Tb, fM Tb x m, fOk ⟨x, m, k⟩])) (by kernel_rfl) (Hsx.drew S5) (fun hHeld => ?_)
      refine wpL_reckon (i := 0) (v := ?_) rfl (by kernel_rfl) (fun _ _ _ h => h) (Or.inl ⟨by rfl, ?_⟩) (Or.inr (by assumption)) ?_
      rotate_left 1
      · intro w _; go_simp; try with_reducible rfl
      try simp only [Act.put, List.getElem_toArray, List.getElem_cons_zero, List.getElem_cons_succ, List.setIfInBounds_toArray, List.set_cons_zero, List.set_cons_succ]
      refine wpL_take (i := 1) (v := ?_) rfl (by kernel_rfl) (fun _ _ _ h => h) (Or.inl ⟨by rfl, ?_⟩) (by assumption) ?_
      rotate_left 1
      · intro w hSw; (try dsimp only at hSw); obtain ⟨-, -, ⟨g0, g1, g2, g3, g4, g5, g6, g7, g8⟩, -⟩ := hSw.out; go_simp; try with_reducible rfl
      try simp only [Act.put, List.getElem_toArray, List.getElem_cons_zero, List.getElem_cons_succ, List.setIfInBounds_toArray, List.set_cons_zero, List.set_cons_succ]
      refine wpL_reckon (i := 3) (v := ?_) rfl (by kernel_rfl) (fun _ _ _ h => h) (Or.inl ⟨by rfl, ?_⟩) (Or.inr (by assumption)) ?_
      rotate_left 1
      · intro w _; go_simp; try with_reducible rfl
      try simp only [Act.put, List.getElem_toArray, List.getElem_cons_zero, List.getElem_cons_succ, List.setIfInBounds_toArray, List.set_cons_zero, List.set_cons_succ]
      refine wpL_take (i := 4) (v := ?_) rfl (by kernel_rfl) (fun _ _ _ h => h) (Or.inl ⟨by rfl, ?_⟩) (by assumption) ?_
      rotate_left 1
      · intro w hSw; (try dsimp only at hSw); obtain ⟨-, -, ⟨g0, g1, g2, g3, g4, g5, g6, g7, g8⟩, -⟩ := hSw.out; go_simp; try with_reducible rfl
      try simp only [Act.put, List.getElem_toArray, List.getElem_cons_zero, List.getElem_cons_succ, List.setIfInBounds_toArray, List.set_cons_zero, List.set_cons_succ]
      refine wpL_reckon (i := 6) (v := ?_) rfl (by kernel_rfl) (fun _ _ _ h => h) (Or.inl ⟨by rfl, ?_⟩) (Or.inr (by assumption)) ?_
      rotate_left 1
      · intro w _; go_simp; try with_reducible rfl
      try simp only [Act.put, List.getElem_toArray, List.getElem_cons_zero, List.getElem_cons_succ, List.setIfInBounds_toArray, List.set_cons_zero, List.set_cons_succ]
      refine wpL_take (i := 7) (v := ?_) rfl (by kernel_rfl) (fun _ _ _ h => h) (Or.inl ⟨by rfl, ?_⟩) (by assumption) ?_
      rotate_left 1
      · intro w hSw; (try dsimp only at hSw); obtain ⟨-, -, ⟨g0, g1, g2, g3, g4, g5, g6, g7, g8⟩, -⟩ := hSw.out; go_simp; try with_reducible rfl
      try simp only [Act.put, List.getElem_toArray, List.getElem_cons_zero, List.getElem_cons_succ, List.setIfInBounds_toArray, List.set_cons_zero, List.set_cons_succ]
      refine wpL_ready (rs := [2]) (by kernel_rfl) (by simp) ?_
      refine AllL.cons rfl (fun K hK => ?_) AllL.nil
      go_simp
      refine (cloneB_v x.A x.c _ m.a _ hHeld.out.2.2.2.1.1.1 rfl (by omega)).mono ?_
      rintro r wb4 ⟨A4, c4, rfl, ho, hb⟩
      have HO4 := Lib.hid (own_base ho (Nat.succ_le_of_lt hHeld.out.2.1.1))
      have HB4 := Lib.hid hb
      clear ho hb
      go_wp2_with fail
      refine hK.out _ _ (Hsx.call HB4.out hHeld) (fun hHeld => ?_)
      clear hK K
      try simp only [Act.put, List.getElem_toArray, List.getElem_cons_zero, List.getElem_cons_succ, List.setIfInBounds_toArray, List.set_cons_zero, List.set_cons_succ]
      refine wpL_reckon (i := 9) (v := ?_) rfl (by kernel_rfl) (fun _ _ _ h => h) (Or.inl ⟨by rfl, ?_⟩) (Or.inr (by assumption)) ?_
      rotate_left 1
      · intro w _; go_simp; try with_reducible rfl
      try simp only [Act.put, List.getElem_toArray, List.getElem_cons_zero, List.getElem_cons_succ, List.setIfInBounds_toArray, List.set_cons_zero, List.set_cons_succ]
      refine wpL_ready (rs := [5]) (by kernel_rfl) (by simp) ?_
      refine AllL.cons rfl (fun K hK => ?_) AllL.nil
      go_simp
      refine (cloneB_v x.B x.d _ m.l _ hHeld.out.2.2.2.1.1.2.1 rfl (by omega)).mono ?_
      rintro r wb5 ⟨A5, c5, rfl, ho, hb⟩
      have HO5 := Lib.hid (own_base ho (Nat.succ_le_of_lt hHeld.out.2.1.1))
      have HB5 := Lib.hid hb
      clear ho hb
      go_wp2_with fail
      refine hK.out _ _ (Hsx.call HB5.out hHeld) (fun hHeld => ?_)
      clear hK K
      try simp only [Act.put, List.getElem_toArray, List.getElem_cons_zero, List.getElem_cons_succ, List.setIfInBounds_toArray, List.set_cons_zero, List.set_cons_succ]
      refine wpL_ready (rs := [8]) (by kernel_rfl) (by simp) ?_
      refine AllL.cons rfl (fun K hK => ?_) AllL.nil
      go_simp
      refine (cloneI_v x.D x.e x.k k _ hHeld.out.2.2.2.1.2.1 HKX.out (by omega)).mono ?_
      rintro r wb6 ⟨A6, c6, rfl, ho, hb⟩
      have HO6 := Lib.hid (own_base ho (Nat.succ_le_of_lt hHeld.out.2.1.1))
      have HB6 := Lib.hid hb
      clear ho hb
      have SY := Lib.hid (hHeld.out.call HB6.out)
      obtain ⟨-, ⟨f0, gf⟩, ⟨g0, g1, g2, g3, g4, g5, g6, g7, g8⟩, -⟩ := SY.out
      have f1 := gf 0
      have f2 := gf 1
      have f3 := gf 7
      clear gf
      go_wp2_with fail
      refine hK.out _ _ (SY) (fun hHeld => ?_)
      clear hK K
      try simp only [Act.put, List.getElem_toArray, List.getElem_cons_zero, List.getElem_cons_succ, List.setIfInBounds_toArray, List.set_cons_zero, List.set_cons_succ]
      refine wpL_ready (rs := [10]) (by kernel_rfl) (by simp) ?_
      refine AllL.late rfl (by kernel_rfl) (fun K hK => ?_) AllL.nil
      go_simp
      refine hK.out _ _ ?_
      clear hK K
      try simp only [Act.put, List.getElem_toArray, List.getElem_cons_zero, List.getElem_cons_succ, List.setIfInBounds_toArray, List.set_cons_zero, List.set_cons_succ]
      refine wpL_reckon (i := 11) (v := ?_) rfl (by kernel_rfl) (fun _ _ _ h => h) (Or.inl ⟨by rfl, ?_⟩) (Or.inl (by kernel_rfl)) ?_
      rotate_left 1
      · intro w _; go_simp; try with_reducible rfl
      try simp only [Act.put, List.getElem_toArray, List.getElem_cons_zero, List.getElem_cons_succ, List.setIfInBounds_toArray, List.set_cons_zero, List.set_cons_succ]
      refine wpL_ready (rs := [12]) (by kernel_rfl) (by simp) ?_
      refine AllL.late rfl (by kernel_rfl) (fun K hK => ?_) AllL.nil
      go_simp
      refine hK.out _ _ ?_
      clear hK K
      try simp only [Act.put, List.getElem_toArray, List.getElem_cons_zero, List.getElem_cons_succ, List.setIfInBounds_toArray, List.set_cons_zero, List.set_cons_succ]
      refine wpL_reckon (i := 13) (v := ?_) rfl (by kernel_rfl) (fun _ _ _ h => h) (Or.inl ⟨by rfl, ?_⟩) (Or.inl (by kernel_rfl)) ?_
      rotate_left 1
      · intro w _; go_simp; try with_reducible rfl
      try simp only [Act.put, List.getElem_toArray, List.getElem_cons_zero, List.getElem_cons_succ, List.setIfInBounds_toArray, List.set_cons_zero, List.set_cons_succ]
      refine wpL_ready (rs := [14]) (by kernel_rfl) (by simp) ?_
      refine AllL.late rfl (by kernel_rfl) (fun K hK => ?_) AllL.nil
      go_simp
      refine hK.out _ _ ?_
      clear hK K
      try simp only [Act.put, List.getElem_toArray, List.getElem_cons_zero, List.getElem_cons_succ, List.setIfInBounds_toArray, List.set_cons_zero, List.set_cons_succ]
      refine wpL_done (by kernel_rfl) ?_ _
      clear g0 g1 g2 g3 g4 g5 g6 g7 g8 f0 f1 f2 f3
      have HW3 := wz_new HNUM.out HKX.out HTb SY HO4.out HO5.out HO6.out HB5.out HB6.out hTB
      have HM3 := Lib.hid (SY.out.2.2.1.new3 A4 A5 A6 c4 c5 c6)
      have HC3 := Lib.hid (HC.out.call (w' := ((wb6.setCell ⟨Tb, 0, none⟩ (.slice A4 m.a.length c4)).setCell ⟨Tb, 1, none⟩ (.slice A5 m.l.length c5)).setCell ⟨Tb, 7, none⟩ (.slice A6 x.k c6)) (((SY.out.1.setCell (p := ⟨Tb, 0, none⟩) (Nat.le_of_eq hTb) _).setCell (p := ⟨Tb, 1, none⟩) (Nat.le_of_eq hTb) _).setCell (p := ⟨Tb, 7, none⟩) (Nat.le_of_eq hTb) _))
      clear HC SY HO4 HO5 HO6 HB4 HB5 HB6 S5 hHeld
      generalize ((wb6.setCell ⟨Tb, 0, none⟩ (.slice A4 m.a.length c4)).setCell ⟨Tb, 1, none⟩ (.slice A5 m.l.length c5)).setCell ⟨Tb, 7, none⟩ (.slice A6 x.k c6) = w5 at HW3 HM3 HC3 ⊢
      have hTL := HTL.out
      have hnL := HNL.out
      have hrow := row_at HC3.out.2.2.2.2.2.1 hTL hnL
      obtain ⟨hr1, hr2⟩ := hrow
      have x0 := hr1 0 _ (by omega) rfl
      rw [Nat.add_zero] at x0
      have x1 := hr1 1 _ (by omega) rfl
      have x2 := hr1 2 _ (by omega) rfl
      have x3 := hr1 3 _ (by omega) rfl
      have x4 := hr1 4 _ (by omega) rfl
      have x5 := hr1 5 _ (by omega) rfl
      have x6 := hr1 6 _ (by omega) rfl
      have x7 := hr1 7 _ (by omega) rfl
      have f0 := hr2 0 (by omega)
      rw [Nat.add_zero] at f0
      have f1 := hr2 1 (by omega)
      have f2 := hr2 2 (by omega)
      have f3 := hr2 3 (by omega)
      have f4 := hr2 4 (by omega)
      have f5 := hr2 5 (by omega)
      have f6 := hr2 6 (by omega)
      have f7 := hr2 7 (by omega)
      clear hr1 hr2
      obtain ⟨g0, g1, g2, g3, g4, g5, g6, g7, g8⟩ := HM3.out
      obtain ⟨y0, y1, y2, y3, y4⟩ := HC3.out.2.1
      have HC4 := Lib.hid (HC3.out.put rfl (Mh.same_ze x ⟨A4, c4, A5, c5, A6, x.k, c6⟩ m k) HW3.out)
      rw [hTL] at HC4
      dsimp only at g0 g1 g2 g3 g4 g5 g6 g7 g8 y1 y2 y3 x0 x1 x2 x3 x4 x5 x6 x7
      clear HC3 HM3 HW3 hnL
      go_wp2_with fail
      go_roundw
      case rel => exact ⟨j + 1, T ++ [⟨⟨A4, c4, A5, c5, A6, x.k, c6⟩, m, k⟩], y.Z.drop (j + 1), by omega, by simp [hTL], rfl, by go_num, HC4⟩
      case measure => simp [intOf]; omega
    · obtain rfl : j = d.s.length := by omega
      have hR0 : R = [] := by rw [hR]; exact List.drop_of_length_le (by omega)
      subst hR0
      clear hR
      have HF := Lib.hid (HC.out.fin HBQ.out HVG.out.1 HVG.out.2.1 HVG.out.2.2)
      obtain ⟨y0, y1, y2, y3, y4⟩ := HC.out.2.1
      obtain ⟨⟨e0, ef⟩, ⟨e1, e2, e3, e4, e5⟩⟩ := HC.out.2.2.1
      have f0 := ef 0
      have f1 := ef 1
      have f2 := ef 2
      have f3 := ef 3
      clear HC ef
      dsimp only at y1 y2 y3
      go_wp2_with fail
      obtain ⟨h1, h2, h3, h4⟩ := HF.out
      exact mcopy_end _ _ (B1 + 1) ⟨A1, c1, A2, c2, A3, c3, T⟩ d rfl h1 _ ⟨_, rfl, h2, h3, h4⟩

end Go.Proofs.YteimpkjpoijhmaaDoor
