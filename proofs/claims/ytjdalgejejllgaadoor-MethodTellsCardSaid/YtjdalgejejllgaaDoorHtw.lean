/-
  The law's twin: a head in memory of its own.
-/
import Derived.Test.YtjdalgejejllgaaDoorHq
namespace Go.Proofs.YtjdalgejejllgaaDoor
open Go.RowKit
set_option maxRecDepth 100000
set_option linter.unusedSimpArgs false
set_option linter.unusedVariables false

/-- Amid twin: the head so far at block w.heap.size, the result behind it. -/
def Tw (w : World) (x x' : Mc) (m : Mh) (w' : World) : Prop :=
  Below w.heap.size w w' ∧ Mf w' w.heap.size ∧ Mb w' w.heap.size x' m ∧ Mf w' (w.heap.size + 1) ∧ Mb w' (w.heap.size + 1) Mc.zero Mh.zero ∧ Hd w' x m ∧ w.heap.size + 2 ≤ w'.heap.size
section
variable {w w1 w2 : World} {x x' : Mc} {m : Mh}
theorem Tw.call (h : Tw w x x' m w1) (hb : Below w1.heap.size w1 w2) : Tw w x x' m w2 := by
  obtain ⟨h1, h2, h3, h4, h5, h6, h7⟩ := h
  exact ⟨below_on h1 hb, h2.keep hb, h3.keep hb, h4.keep hb, h5.keep hb, h6.keep hb, Nat.le_trans h7 hb.size⟩
theorem Tw.set (h : Tw w x x' m w1) (hA : (∀ ad, x.A = some ad → 0 < m.a.length → ad.block < w.heap.size) ∧ (∀ ad, x.B = some ad → 0 < m.l.length → ad.block < w.heap.size)) {x2 : Mc} (i : Nat) (v : Value) (hm : Mb (w1.setCell ⟨w.heap.size, i, none⟩ v) w.heap.size x2 m) : Tw w x x2 m (w1.setCell ⟨w.heap.size, i, none⟩ v) := by
  obtain ⟨h1, h2, h3, h4, h5, h6, h7⟩ := h
  exact ⟨h1.setCell (Nat.le_refl _) _, h2.set _ _, hm, h4.set _ _, h5.other (by show w.heap.size ≠ w.heap.size + 1; omega) _, ⟨h6.1.setc (fun ad h0 hl => by have := hA.1 ad h0 hl; show ad.block ≠ w.heap.size; omega) _, h6.2.1.setc (fun ad h0 hl => by have := hA.2 ad h0 hl; show ad.block ≠ w.heap.size; omega) _, h6.2.2⟩, by simpa using h7⟩
end
theorem tw_end (tm : Array Value) (w' : World) (T : Nat) (x : Mc) (m : Mh) (hT : tm[2]?.getD undef = .pointer (some ⟨T, 0, none⟩)) (hM : Mb w' T x m) (R : Ending → World → Prop)
    (hR : R (.returned (mv x m)) w') : bodyPost Tryd.prog Tryd.f9 R .ret { tmps := tm, defers := [] } w' := by
  obtain ⟨h0, c1, c2, c3, c4, c5, c6, c7, c8⟩ := hM
  exact bodyPost_ret (v := mv x m) (by simp [results, Tryd.results9, go_sem, hT, c1, c2, c3, c4, c5, c6, c7, c8]) rfl hR
set_option maxHeartbeats 4000000 in
theorem twin_v (x : Mc) (m : Mh) (w : World) (hx : Hd w x m) (b1 : m.a.length ≤ 1000) (b2 : m.l.length ≤ 1000) :
    Calls Tryd.prog 9 #[mv x m] w fun e w' => ∃ A c B d, e = .returned (mv ⟨A, c, B, d, x.D, x.k, x.e⟩ m) ∧ Hd w' ⟨A, c, B, d, x.D, x.k, x.e⟩ m ∧ Below w.heap.size w w' := by
  obtain ⟨i0, hi, hz0, hz1, hz2⟩ := info_parts Tryd.info5
  have HA : Hid ((∀ ad, x.A = some ad → 0 < m.a.length → ad.block < w.heap.size) ∧ (∀ ad, x.B = some ad → 0 < m.l.length → ad.block < w.heap.size)) := ⟨fun ad h0 h1 => rd_lt hx.1 h0 h1, fun ad h0 h1 => rd_lt hx.2.1 h0 h1⟩
  have hb00 : Below w.heap.size w ((w.alloc (hcel x m)).alloc (hcel Mc.zero Mh.zero)) := new1.alloc (by simp) _
  have HBY := Lib.hid (And.intro hx.1.byt hx.2.1.byt)
  have HN := Lib.hid hx.2.2
  have Q0 : Hid (Tw w x x m ((w.alloc (hcel x m)).alloc (hcel Mc.zero Mh.zero))) := by
    have h1 := Mf.new (w.alloc (hcel x m)) #[.slice none 0 0, .slice none 0 0, .int .u8 0, .bool false, .int .i64 0, .int .i64 0, .int .i64 0, .slice none 0 0] 25
    have h2 := Mb.new (w.alloc (hcel x m)) Mc.zero Mh.zero
    rw [size1] at h1 h2
    exact ⟨hb00, (Mf.new w _ _).keep new1, (Mb.new w _ _).keep new1, h1, h2, hx.keep hb00, by simp⟩
  clear hx hb00
  go_enter Tryd.func9, Tryd.ntmps9
  go_upto_region 1 with (fail)
  have Q0' : Hid (Tw w x x m ((w.alloc (.cells #[.slice x.A m.a.length x.c, .slice x.B m.l.length x.d, .int .u8 m.r, .bool m.q, .int .i64 m.f, .int .i64 m.s, .int .i64 m.h, .slice x.D x.k x.e] 25)).alloc (.cells #[.slice none 0 0, .slice none 0 0, .int .u8 0, .bool false, .int .i64 0, .int .i64 0, .int .i64 0, .slice none 0 0] 25))) := Q0
  clear Q0
  generalize (w.alloc (.cells #[.slice x.A m.a.length x.c, .slice x.B m.l.length x.d, .int .u8 m.r, .bool m.q, .int .i64 m.f, .int .i64 m.s, .int .i64 m.h, .slice x.D x.k x.e] 25)).alloc (.cells #[.slice none 0 0, .slice none 0 0, .int .u8 0, .bool false, .int .i64 0, .int .i64 0, .int .i64 0, .slice none 0 0] 25) = w0 at Q0' ⊢
  have Q0 := Q0'
  clear Q0'
  obtain ⟨z0, z1, z2, z3, z4, z5, z6, z7, z8⟩ := Q0.out.2.2.1
  have hs0 := Q0.out.2.2.2.2.2.2
  go_wp2_with (at_builtin; refine wpList_append_rd _ rfl (.tmp 3) (.tmp 5) 22 rfl w0.heap.size 5 i0 Tryd.underlying22 hi hz0 hz1 hz2 _ 0 [] rfl (World.ownsRow_lit w0 #[] 0 (Nat.le_refl _) (Nat.zero_le _) rfl) x.A m.a.length x.c m.a rfl (Rd.alloc Q0.out.2.2.2.2.2.1.1 _) rfl (by omega) (by simp) ?_)
  intro A1 c1 w1 ho1 hg1 hb1 _
  have Q1 := Lib.hid (Q0.out.call (new1.trans hb1))
  have HO1 : Hid (w1.ownsRow (w.heap.size + 2) 5 1 (.slice A1 m.a.length c1) m.a.length (cel m.a)) := own_base (by simpa using ho1) (by omega)
  have Q2 := Lib.hid (Q1.out.set HA.out 0 (.slice A1 m.a.length c1) (Q1.out.2.2.1.setA A1 c1 m.a _ rfl))
  have HO2 : Hid ((w1.setCell ⟨w.heap.size, 0, none⟩ (.slice A1 m.a.length c1)).ownsRow (w.heap.size + 2) 5 1 (.slice A1 m.a.length c1) m.a.length (cel m.a)) := ownsRow_setCell_below HO1.out (by show w.heap.size < _; omega) _
  clear ho1 hg1 hb1 Q0 HO1 z0 z1 z2 z3 z4 z5 z6 z7 z8 hs0
  obtain ⟨f0, f1, f2, f3, f4, f5, f6, f7⟩ := Q1.out.2.1.keepM
  obtain ⟨y0, y1, y2, y3, y4, y5, y6, y7, y8⟩ := Q1.out.2.2.1
  go_upto_region 2 with (fail)
  clear f0 f1 f2 f3 f4 f5 f6 f7 y0 y1 y2 y3 y4 y5 y6 y7 y8 Q1
  generalize w1.setCell ⟨w.heap.size, 0, none⟩ (.slice A1 m.a.length c1) = w1' at Q2 HO2 ⊢
  obtain ⟨z0, z1, z2, z3, z4, z5, z6, z7, z8⟩ := Q2.out.2.2.1
  dsimp only at z1 z2 z8
  have hs0 := Q2.out.2.2.2.2.2.2
  go_wp2_with (at_builtin; refine wpList_append_rd _ rfl (.tmp 8) (.tmp 10) 22 rfl w1'.heap.size 5 i0 Tryd.underlying22 hi hz0 hz1 hz2 _ 0 [] rfl (World.ownsRow_lit w1' #[] 0 (Nat.le_refl _) (Nat.zero_le _) rfl) x.B m.l.length x.d m.l rfl (Rd.alloc Q2.out.2.2.2.2.2.1.2.1 _) rfl (by omega) (by simp) ?_)
  intro A2 c2 w2 ho1 hg1 hb1 _
  have Q3 := Lib.hid (Q2.out.call (new1.trans hb1))
  have HO3 : Hid (w2.ownsRow (w.heap.size + 2) 5 1 (.slice A2 m.l.length c2) m.l.length (cel m.l)) := own_base (by simpa using ho1) (by omega)
  have HO4 := Lib.hid (own_below HO2.out (new1.trans hb1) (Nat.le_refl _))
  have Q4 := Lib.hid (Q3.out.set HA.out 1 (.slice A2 m.l.length c2) (Q3.out.2.2.1.setB A2 c2 m.l _ rfl))
  have HO5 : Hid ((w2.setCell ⟨w.heap.size, 1, none⟩ (.slice A2 m.l.length c2)).ownsRow (w.heap.size + 2) 5 1 (.slice A1 m.a.length c1) m.a.length (cel m.a)) := ownsRow_setCell_below HO4.out (by show w.heap.size < _; omega) _
  have HO6 : Hid ((w2.setCell ⟨w.heap.size, 1, none⟩ (.slice A2 m.l.length c2)).ownsRow (w.heap.size + 2) 5 1 (.slice A2 m.l.length c2) m.l.length (cel m.l)) := ownsRow_setCell_below HO3.out (by show w.heap.size < _; omega) _
  clear ho1 hg1 hb1 Q2 HO2 HO3 HO4 z0 z1 z2 z3 z4 z5 z6 z7 z8 hs0
  obtain ⟨f0, f1, f2, f3, f4, f5, f6, f7⟩ := Q3.out.2.1.keepM
  obtain ⟨y0, y1, y2, y3, y4, y5, y6, y7, y8⟩ := Q3.out.2.2.1
  dsimp only at y1 y2 y8
  go_upto_region 3 with (fail)
  clear f0 f1 f2 f3 f4 f5 f6 f7 y0 y1 y2 y3 y4 y5 y6 y7 y8 Q3
  generalize w2.setCell ⟨w.heap.size, 1, none⟩ (.slice A2 m.l.length c2) = w3 at Q4 HO5 HO6 ⊢
  obtain ⟨z0, z1, z2, z3, z4, z5, z6, z7, z8⟩ := Q4.out.2.2.1
  dsimp only at z1 z2 z8
  obtain ⟨g0, g1, g2, g3, g4, g5, g6, g7⟩ := Q4.out.2.2.2.1.keepM
  obtain ⟨y0, y1, y2, y3, y4, y5, y6, y7, y8⟩ := Q4.out.2.2.2.2.1
  go_wp2_with fail
  have E1 := put8_mb Q4.out.2.2.2.2.1 ⟨A1, c1, A2, c2, x.D, x.k, x.e⟩ m
  have E2 := put8_below Q4.out.1 (show w.heap.size ≤ w.heap.size + 1 by omega) ⟨A1, c1, A2, c2, x.D, x.k, x.e⟩ m
  have E3 := put8_own (B := w.heap.size + 1) HO5.out (by omega) ⟨A1, c1, A2, c2, x.D, x.k, x.e⟩ m
  have E4 := put8_own (B := w.heap.size + 1) HO6.out (by omega) ⟨A1, c1, A2, c2, x.D, x.k, x.e⟩ m
  exact tw_end _ _ (w.heap.size + 1) ⟨A1, c1, A2, c2, x.D, x.k, x.e⟩ m rfl E1 _ ⟨A1, c1, A2, c2, rfl, ⟨own_rd E3 HBY.out.1, own_rd E4 HBY.out.2, HN.out⟩, E2⟩
end Go.Proofs.YtjdalgejejllgaaDoor
