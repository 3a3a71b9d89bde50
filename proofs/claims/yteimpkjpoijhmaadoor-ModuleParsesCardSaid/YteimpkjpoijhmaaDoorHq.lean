/-
  Layer 7, package method: what Read answers, at every place.
-/
import Derived.Test.YteimpkjpoijhmaaDoorHo
namespace Go.Proofs.YteimpkjpoijhmaaDoor
open Go.RowKit
set_option maxRecDepth 100000
set_option linter.unusedSimpArgs false
set_option linter.unusedVariables false

theorem Mb.grown {w w' : World} {B R : Nat} {x : Mc} {m : Mh} (h : Mb w B x m) (hg : w.grownBy w' (some R)) (hne : B ≠ R) : Mb w' B x m := by
  obtain ⟨h0, h1, h2, h3, h4, h5, h6, h7, h8⟩ := h
  have k : ∀ {a : Addr} {v : Value}, w.cell? a = some v → a.block ≠ R → w'.cell? a = some v := fun hv hn => hg.cell hv (by simpa using hn)
  exact ⟨Nat.lt_of_lt_of_le h0 hg.size, k h1 hne, k h2 hne, k h3 hne, k h4 hne, k h5 hne, k h6 hne, k h7 hne, k h8 hne⟩
theorem Mf.grown {w w' : World} {B R : Nat} (h : Mf w B) (hg : w.grownBy w' (some R)) (hne : B ≠ R) : Mf w' B :=
  ⟨Nat.lt_of_lt_of_le h.1 hg.size, fun i => by have := h.2 i; simp only [World.frozen?] at this ⊢; rw [hg.block B h.1 (by simpa using hne)]; exact this⟩
/-- Amid Read: the head so far at block w.heap.size, the reader behind it. -/
def Q7 (w : World) (A : Option Addr) (c n : Nat) (l : List Int) (x : Mc) (m : Mh) (q e : Int) (w' : World) : Prop :=
  Below w.heap.size w w' ∧ Mf w' w.heap.size ∧ Mb w' w.heap.size x m ∧ R3 w' (w.heap.size + 1) A c n q e ∧ Rd w' A c l ∧ GM w' ∧ ((fO (w.heap.size + 2) x.A x.c m.a).p w' ∧ (fO (w.heap.size + 2) x.B x.d m.l).p w') ∧ w.heap.size + 2 ≤ w'.heap.size
section
variable {w w1 w2 : World} {A : Option Addr} {c n : Nat} {l : List Int} {x : Mc} {m : Mh} {q e : Int}
theorem Q7.num (h : Q7 w A c n l x m q e w1) (hA : ∀ ad, A = some ad → 0 < l.length → ad.block < w.heap.size) (hG : gN (w.heap.size + 1)) {q' e' : Int} (hg : w1.grownBy w2 (some (w.heap.size + 1))) (hr : R3 w2 (w.heap.size + 1) A c n q' e') : Q7 w A c n l x m q' e' w2 := by
  obtain ⟨h1, h2, h3, h4, h5, h6, h7, h8⟩ := h
  refine ⟨h1.grown hg (by omega) (fun j hj => by injection hj with hj; omega), h2.grown hg (by omega), h3.grown hg (by omega), hr, h5.grown hg (fun ad h0 hl e => by injection e with e; have := hA ad h0 hl; omega), h6.grown hg hG, ⟨⟨h7.1.1.kept hg (.inr fun e => ?_), h7.1.2⟩, ⟨h7.2.1.kept hg (.inr fun e => ?_), h7.2.2⟩⟩, Nat.le_trans h8 hg.size⟩
  · have := (h7.1.1.lt _ e).1; omega
  · have := (h7.2.1.lt _ e).1; omega
theorem Q7.call (h : Q7 w A c n l x m q e w1) (hb : Below w1.heap.size w1 w2) : Q7 w A c n l x m q e w2 := by
  obtain ⟨h1, h2, h3, h4, h5, h6, h7, h8⟩ := h
  exact ⟨below_on h1 hb, h2.keep hb, h3.keep hb, h4.keep hb, h5.keep hb, h6.keep hb, ⟨⟨own_below h7.1.1 hb (Nat.le_refl _), h7.1.2⟩, ⟨own_below h7.2.1 hb (Nat.le_refl _), h7.2.2⟩⟩, Nat.le_trans h8 hb.size⟩
theorem Q7.set (h : Q7 w A c n l x m q e w1) (hA : ∀ ad, A = some ad → 0 < l.length → ad.block < w.heap.size) (hG : gN w.heap.size) {x' : Mc} {m' : Mh} (i : Nat) (v : Value) (hm : Mb (w1.setCell ⟨w.heap.size, i, none⟩ v) w.heap.size x' m') (ho : (fO (w.heap.size + 2) x'.A x'.c m'.a).p w1 ∧ (fO (w.heap.size + 2) x'.B x'.d m'.l).p w1) : Q7 w A c n l x' m' q e (w1.setCell ⟨w.heap.size, i, none⟩ v) := by
  obtain ⟨h1, h2, h3, h4, h5, h6, h7, h8⟩ := h
  exact ⟨h1.setCell (Nat.le_refl _) _, h2.set _ _, hm, h4.other (by simp) _, h5.setc (fun ad h0 hl => by have := hA ad h0 hl; show ad.block ≠ w.heap.size; omega) _, h6.set hG _, ⟨⟨ownsRow_setCell_below ho.1.1 (by show w.heap.size < _; omega) _, ho.1.2⟩, ⟨ownsRow_setCell_below ho.2.1 (by show w.heap.size < _; omega) _, ho.2.2⟩⟩, by simpa using h8⟩
end
theorem rdQ_all {l : List Int} {p : Int} {K1 K2 : List Int} {q1 e1 q2 e2 v3 q3 e3 v4 q4 e4 v5 q5 e5 v6 q6 e6 v7 q7 e7 : Int} (h1 : rK l 4 (p, 0) = (K1, q1, e1)) (h2 : rK l (16 - K1.length) (q1, e1) = (K2, q2, e2)) (h3 : rN l 1 1 2 (q2, e2) = (v3, q3, e3)) (h4 : rN l 1 0 1 (q3, e3) = (v4, q4, e4))
    (h5 : rN l 3 0 1048576 (q4, e4) = (v5, q5, e5)) (h6 : rN l 2 0 256 (q5, e5) = (v6, q6, e6)) (h7 : rN l 2 0 1024 (q6, e6) = (v7, q7, e7)) : rdQ l p = if e7 = 0 then (⟨K1, K2, v3, v4 == 1, v5, v6, v7⟩, q7, 0) else (Mh.zero, 0, e7) := by
  simp only [rdQ, h1, h2, fs7, rF, h3, h4, h5, h6, h7, mk7]
  rfl
/-- A world that the program's Read has left its answer in. -/
theorem q7_end (tm : Array Value) (w' : World) (T : Nat) (x : Mc) (m : Mh) (n e : Int) (hT : tm[4]?.getD undef = .pointer (some ⟨T, 0, none⟩)) (h5 : tm[5]?.getD undef = .int .i64 n) (h6 : tm[6]?.getD undef = .int .i64 e) (hM : Mb w' T x m) (R : Ending → World → Prop)
    (hR : R (.returned (.tuple #[mv x m, .int .i64 n, .int .i64 e])) w') : bodyPost Tryd.prog Tryd.f110 R .ret { tmps := tm, defers := [] } w' := by
  obtain ⟨h0, c1, c2, c3, c4, c5, c6, c7, c8⟩ := hM
  exact bodyPost_ret (v := .tuple #[mv x m, .int .i64 n, .int .i64 e]) (by simp [results, Tryd.results110, go_sem, hT, h5, h6, c1, c2, c3, c4, c5, c6, c7, c8]) rfl hR
set_option maxHeartbeats 4000000 in
theorem mreadw_v (A : Option Addr) (c n : Nat) (l : List Int) (p : Int) (R : Mh × Int × Int) (w : World) (hr : Rd w A c l) (hn : l.length = n) (hw : GM w) (hR : rdQ l p = R) :
    Calls Tryd.prog 110 #[.slice A n c, .int .i64 p] w fun e w' => ∃ x, e = .returned (.tuple #[mv x R.1, .int .i64 R.2.1, .int .i64 R.2.2]) ∧ (x.k = 0 ∧ x.D = none ∧ x.e = 0) ∧ (w'.ownsRow w.heap.size 5 1 (.slice x.A R.1.a.length x.c) R.1.a.length (cel R.1.a) ∧ w'.ownsRow w.heap.size 5 1 (.slice x.B R.1.l.length x.d) R.1.l.length (cel R.1.l)) ∧ Hd w' x R.1 ∧ Below w.heap.size w w' := by
  have HA : Hid (∀ ad, A = some ad → 0 < l.length → ad.block < w.heap.size) := fun ad h0 h1 => rd_lt hr h0 h1
  have HAN : Hid (∀ ad, A = some ad → 0 < l.length → some ad.block ≠ some (w.heap.size + 1)) := fun ad h0 h1 e => by
    injection e with e
    have := HA.out ad h0 h1
    omega
  have HG0 := Lib.hid (hw.lt (Nat.le_refl w.heap.size))
  have HG1 := Lib.hid (hw.lt (show w.heap.size ≤ w.heap.size + 1 by omega))
  have HRR := Lib.hid hR
  have hb00 : Below w.heap.size w ((w.alloc (hcel Mc.zero Mh.zero)).alloc (.cells #[.slice A n c, .int .i64 p, .int .i64 0] 159)) := new1.alloc (by simp) _
  have Q0 : Hid (Q7 w A c n l Mc.zero Mh.zero p 0 ((w.alloc (hcel Mc.zero Mh.zero)).alloc (.cells #[.slice A n c, .int .i64 p, .int .i64 0] 159))) := by
    have h3 := R3.new (w.alloc (hcel Mc.zero Mh.zero)) A c n p 0 159
    rw [size1] at h3
    exact ⟨hb00, (Mf.new w _ _).keep new1, (Mb.new w _ _).keep new1, h3, hr.keep hb00, hw.keep hb00, ⟨⟨World.ownsRow_nil _ _ _ _, fun x hx => (by cases hx)⟩, ⟨World.ownsRow_nil _ _ _ _, fun x hx => (by cases hx)⟩⟩, by simp⟩
  obtain ⟨K1, q1, e1, h1⟩ : ∃ K q e, rK l 4 (p, 0) = (K, q, e) := ⟨_, _, _, rfl⟩
  obtain ⟨K2, q2, e2, h2⟩ : ∃ K q e, rK l (16 - K1.length) (q1, e1) = (K, q, e) := ⟨_, _, _, rfl⟩
  obtain ⟨v3, q3, e3, h3⟩ : ∃ v q e, rN l 1 1 2 (q2, e2) = (v, q, e) := ⟨_, _, _, rfl⟩
  obtain ⟨v4, q4, e4, h4⟩ : ∃ v q e, rN l 1 0 1 (q3, e3) = (v, q, e) := ⟨_, _, _, rfl⟩
  obtain ⟨v5, q5, e5, h5⟩ : ∃ v q e, rN l 3 0 1048576 (q4, e4) = (v, q, e) := ⟨_, _, _, rfl⟩
  obtain ⟨v6, q6, e6, h6⟩ : ∃ v q e, rN l 2 0 256 (q5, e5) = (v, q, e) := ⟨_, _, _, rfl⟩
  obtain ⟨v7, q7, e7, h7⟩ : ∃ v q e, rN l 2 0 1024 (q6, e6) = (v, q, e) := ⟨_, _, _, rfl⟩
  have HF := Lib.hid (rdQ_all h1 h2 h3 h4 h5 h6 h7)
  have bd3 := rN_bd (l := l) (W := 1) (lo := 1) (hi := 2) (s := (q2, e2)) (by decide)
  have bd5 := rN_bd (l := l) (W := 3) (lo := 0) (hi := 1048576) (s := (q4, e4)) (by decide)
  have bd6 := rN_bd (l := l) (W := 2) (lo := 0) (hi := 256) (s := (q5, e5)) (by decide)
  have bd7 := rN_bd (l := l) (W := 2) (lo := 0) (hi := 1024) (s := (q6, e6)) (by decide)
  rw [h3] at bd3
  rw [h5] at bd5
  rw [h6] at bd6
  rw [h7] at bd7
  dsimp only at bd3 bd5 bd6 bd7
  have hK1 : K1.length ≤ 4 := by
    have b := rN_bd (l := l) (W := 1) (lo := 0) (hi := 4) (s := (p, 0)) (by decide)
    have b2 := rKs_len l (rN l 1 0 4 (p, 0)).1.toNat (rN l 1 0 4 (p, 0)).2
    rw [rK] at h1
    rw [h1] at b2
    dsimp only at b2
    omega
  have P1 := fun w1 (Q : Hid (Q7 w A c n l Mc.zero Mh.zero p 0 w1)) => Lib.hid (kinds7_v (w.heap.size + 1) A c n l 4 p 0 K1 q1 e1 w1 Q.out.2.2.2.2.1 hn Q.out.2.2.2.1 Q.out.2.2.2.2.2.1 HG1.out HAN.out (by decide) h1)
  have P2 := fun x m w1 (Q : Hid (Q7 w A c n l x m q1 e1 w1)) => Lib.hid (kinds7_v (w.heap.size + 1) A c n l (16 - K1.length) q1 e1 K2 q2 e2 w1 Q.out.2.2.2.2.1 hn Q.out.2.2.2.1 Q.out.2.2.2.2.2.1 HG1.out HAN.out (by omega) h2)
  have P3 := fun x m w1 (Q : Hid (Q7 w A c n l x m q2 e2 w1)) => Lib.hid (num7_v (w.heap.size + 1) A c n l 1 1 2 q2 e2 v3 q3 e3 w1 Q.out.2.2.2.2.1 hn Q.out.2.2.2.1 h3)
  have P4 := fun x m w1 (Q : Hid (Q7 w A c n l x m q3 e3 w1)) => Lib.hid (num7_v (w.heap.size + 1) A c n l 1 0 1 q3 e3 v4 q4 e4 w1 Q.out.2.2.2.2.1 hn Q.out.2.2.2.1 h4)
  have P5 := fun x m w1 (Q : Hid (Q7 w A c n l x m q4 e4 w1)) => Lib.hid (num7_v (w.heap.size + 1) A c n l 3 0 1048576 q4 e4 v5 q5 e5 w1 Q.out.2.2.2.2.1 hn Q.out.2.2.2.1 h5)
  have P6 := fun x m w1 (Q : Hid (Q7 w A c n l x m q5 e5 w1)) => Lib.hid (num7_v (w.heap.size + 1) A c n l 2 0 256 q5 e5 v6 q6 e6 w1 Q.out.2.2.2.2.1 hn Q.out.2.2.2.1 h6)
  have P7 := fun x m w1 (Q : Hid (Q7 w A c n l x m q6 e6 w1)) => Lib.hid (num7_v (w.heap.size + 1) A c n l 2 0 1024 q6 e6 v7 q7 e7 w1 Q.out.2.2.2.2.1 hn Q.out.2.2.2.1 h7)
  clear hb00 hr hw hR h1 h2 h3 h4 h5 h6 h7
  go_enter Tryd.func110, Tryd.ntmps110
  go_wp2_with fail
  refine (count_v 4 _).mono ?_
  rintro e w1 ⟨rfl, hb1⟩
  have Q1 := Lib.hid (Q0.out.call hb1)
  clear hb1 Q0
  go_wp2_with fail
  refine (P1 _ Q1).out.mono ?_
  rintro e w2 ⟨A1, c1, rfl, ho2, hy2, hg2, hr2⟩
  have Q2 := Lib.hid (Q1.out.num HA.out HG1.out hg2 hr2)
  have Q3 := Lib.hid (Q2.out.set HA.out HG0.out 0 (.slice A1 K1.length c1) (Q2.out.2.2.1.setA A1 c1 K1 _ rfl) ⟨⟨own_base ho2 Q1.out.2.2.2.2.2.2.2, hy2⟩, Q2.out.2.2.2.2.2.2.1.2⟩)
  obtain ⟨f0, f1, f2, f3, f4, f5, f6, f7⟩ := Q2.out.2.1.keepM
  obtain ⟨y0, y1, y2, y3, y4, y5, y6, y7, y8⟩ := Q2.out.2.2.1
  clear ho2 hy2 hg2 hr2 Q1 P1
  go_wp2_with fail
  refine (other_v K1.length _ (by omega) (by omega)).mono ?_
  rintro e w3 ⟨rfl, hb3⟩
  have Q4 := Lib.hid (Q3.out.call hb3)
  clear hb3 Q3 Q2 f0 f1 f2 f3 f4 f5 f6 f7 y0 y1 y2 y3 y4 y5 y6 y7 y8
  go_wp2_with fail
  refine (P2 _ _ _ Q4).out.mono ?_
  rintro e w4 ⟨A2, c2, rfl, ho2, hy2, hg2, hr2⟩
  have Q5 := Lib.hid (Q4.out.num HA.out HG1.out hg2 hr2)
  have Q6 := Lib.hid (Q5.out.set HA.out HG0.out 1 (.slice A2 K2.length c2) (Q5.out.2.2.1.setB A2 c2 K2 _ rfl) ⟨Q5.out.2.2.2.2.2.2.1.1, ⟨own_base ho2 Q4.out.2.2.2.2.2.2.2, hy2⟩⟩)
  obtain ⟨f0, f1, f2, f3, f4, f5, f6, f7⟩ := Q5.out.2.1.keepM
  obtain ⟨y0, y1, y2, y3, y4, y5, y6, y7, y8⟩ := Q5.out.2.2.1
  clear ho2 hy2 hg2 hr2 Q4 P2
  go_upto_region 4 with (fail)
  clear f0 f1 f2 f3 f4 f5 f6 f7 y0 y1 y2 y3 y4 y5 y6 y7 y8 Q5
  generalize w4.setCell ⟨w.heap.size, 1, none⟩ (.slice A2 K2.length c2) = w4' at Q6 ⊢
  obtain ⟨-, k0, k1, k2⟩ := Q6.out.2.2.2.2.2.1.2.1
  go_wp2_with fail
  refine (P3 _ _ _ Q6).out.mono ?_
  rintro e w5 ⟨rfl, hg2, hr2⟩
  have Q7_ := Lib.hid (Q6.out.num HA.out HG1.out hg2 hr2)
  have Q8_ := Lib.hid (Q7_.out.set HA.out HG0.out 2 (.int .u8 v3) (Q7_.out.2.2.1.setR v3) Q7_.out.2.2.2.2.2.2.1)
  obtain ⟨f0, f1, f2, f3, f4, f5, f6, f7⟩ := Q7_.out.2.1.keepM
  obtain ⟨y0, y1, y2, y3, y4, y5, y6, y7, y8⟩ := Q7_.out.2.2.1
  clear hg2 hr2 Q6 P3 k0 k1 k2
  have hmod : v3 % 256 = v3 := by omega
  go_upto_region 5 with (fail)
  clear f0 f1 f2 f3 f4 f5 f6 f7 y0 y1 y2 y3 y4 y5 y6 y7 y8 Q7_
  generalize w5.setCell ⟨w.heap.size, 2, none⟩ (.int .u8 v3) = w5' at Q8_ ⊢
  obtain ⟨-, k0, k1, k2⟩ := Q8_.out.2.2.2.2.2.1.2.2.1
  go_wp2_with fail
  refine (P4 _ _ _ Q8_).out.mono ?_
  rintro e w6 ⟨rfl, hg2, hr2⟩
  have Q9_ := Lib.hid (Q8_.out.num HA.out HG1.out hg2 hr2)
  have Q10_ := Lib.hid (Q9_.out.set HA.out HG0.out 3 (.bool (v4 == 1)) (Q9_.out.2.2.1.setQ (v4 == 1)) Q9_.out.2.2.2.2.2.2.1)
  obtain ⟨f0, f1, f2, f3, f4, f5, f6, f7⟩ := Q9_.out.2.1.keepM
  obtain ⟨y0, y1, y2, y3, y4, y5, y6, y7, y8⟩ := Q9_.out.2.2.1
  clear hg2 hr2 Q8_ P4 k0 k1 k2
  go_wp2_with fail
  refine (flag_v true _).mono ?_
  rintro e w6b ⟨rfl, rfl⟩
  rw [show fl true = 1 from rfl]
  go_upto_region 6 with (fail)
  clear f0 f1 f2 f3 f4 f5 f6 f7 y0 y1 y2 y3 y4 y5 y6 y7 y8 Q9_
  generalize w6.setCell ⟨w.heap.size, 3, none⟩ (.bool (v4 == 1)) = w6' at Q10_ ⊢
  obtain ⟨-, k0, k1, k2⟩ := Q10_.out.2.2.2.2.2.1.2.2.2.1
  go_wp2_with fail
  refine (P5 _ _ _ Q10_).out.mono ?_
  rintro e w7 ⟨rfl, hg2, hr2⟩
  have Q11_ := Lib.hid (Q10_.out.num HA.out HG1.out hg2 hr2)
  have Q12_ := Lib.hid (Q11_.out.set HA.out HG0.out 4 (.int .i64 v5) (Q11_.out.2.2.1.setF v5) Q11_.out.2.2.2.2.2.2.1)
  obtain ⟨f0, f1, f2, f3, f4, f5, f6, f7⟩ := Q11_.out.2.1.keepM
  obtain ⟨y0, y1, y2, y3, y4, y5, y6, y7, y8⟩ := Q11_.out.2.2.1
  clear hg2 hr2 Q10_ P5 k0 k1 k2
  go_upto_region 7 with (fail)
  clear f0 f1 f2 f3 f4 f5 f6 f7 y0 y1 y2 y3 y4 y5 y6 y7 y8 Q11_
  generalize w7.setCell ⟨w.heap.size, 4, none⟩ (.int .i64 v5) = w7' at Q12_ ⊢
  obtain ⟨-, k0, k1, k2⟩ := Q12_.out.2.2.2.2.2.1.2.2.2.2.1
  go_wp2_with fail
  refine (P6 _ _ _ Q12_).out.mono ?_
  rintro e w8 ⟨rfl, hg2, hr2⟩
  have Q13_ := Lib.hid (Q12_.out.num HA.out HG1.out hg2 hr2)
  have Q14_ := Lib.hid (Q13_.out.set HA.out HG0.out 5 (.int .i64 v6) (Q13_.out.2.2.1.setS v6) Q13_.out.2.2.2.2.2.2.1)
  obtain ⟨f0, f1, f2, f3, f4, f5, f6, f7⟩ := Q13_.out.2.1.keepM
  obtain ⟨y0, y1, y2, y3, y4, y5, y6, y7, y8⟩ := Q13_.out.2.2.1
  clear hg2 hr2 Q12_ P6 k0 k1 k2
  go_upto_region 8 with (fail)
  clear f0 f1 f2 f3 f4 f5 f6 f7 y0 y1 y2 y3 y4 y5 y6 y7 y8 Q13_
  generalize w8.setCell ⟨w.heap.size, 5, none⟩ (.int .i64 v6) = w8' at Q14_ ⊢
  obtain ⟨-, k0, k1, k2⟩ := Q14_.out.2.2.2.2.2.1.2.2.2.2.2
  go_wp2_with fail
  refine (P7 _ _ _ Q14_).out.mono ?_
  rintro e w9 ⟨rfl, hg2, hr2⟩
  have Q15_ := Lib.hid (Q14_.out.num HA.out HG1.out hg2 hr2)
  have Q16_ := Lib.hid (Q15_.out.set HA.out HG0.out 6 (.int .i64 v7) (Q15_.out.2.2.1.setH v7) Q15_.out.2.2.2.2.2.2.1)
  obtain ⟨f0, f1, f2, f3, f4, f5, f6, f7⟩ := Q15_.out.2.1.keepM
  obtain ⟨y0, y1, y2, y3, y4, y5, y6, y7, y8⟩ := Q15_.out.2.2.1
  clear hg2 hr2 Q14_ P7 k0 k1 k2
  go_upto_region 9 with (fail)
  clear f0 f1 f2 f3 f4 f5 f6 f7 y0 y1 y2 y3 y4 y5 y6 y7 y8 Q15_
  generalize w9.setCell ⟨w.heap.size, 6, none⟩ (.int .i64 v7) = wz at Q16_ ⊢
  have QZ := Q16_.out
  obtain ⟨f0, f1, f2, f3, f4, f5, f6, f7⟩ := QZ.2.1.keepM
  obtain ⟨y0, y1, y2, y3, y4, y5, y6, y7, y8⟩ := QZ.2.2.1
  obtain ⟨s00, s0, s1, s2, z0, z1, z2⟩ := QZ.2.2.2.1
  clear QZ
  by_cases he : e7 = 0
  · subst he
    rw [if_pos rfl] at HF
    go_wp2_with fail
    go_region
    go_wp2_with fail
    obtain ⟨a1, a2, a3, -, -, -, ⟨a6, a7⟩, -⟩ := Q16_.out
    have E1 := (put8_mb a3 ⟨A1, c1, A2, c2, none, 0, 0⟩ ⟨K1, K2, v3, v4 == 1, v5, v6, v7⟩).drew
    have E2 := (put8_below a1 (Nat.le_refl _) ⟨A1, c1, A2, c2, none, 0, 0⟩ ⟨K1, K2, v3, v4 == 1, v5, v6, v7⟩).drew
    have E3 := (put8_own (B := w.heap.size) a6.1 (by omega) ⟨A1, c1, A2, c2, none, 0, 0⟩ ⟨K1, K2, v3, v4 == 1, v5, v6, v7⟩).drew
    have E4 := (put8_own (B := w.heap.size) a7.1 (by omega) ⟨A1, c1, A2, c2, none, 0, 0⟩ ⟨K1, K2, v3, v4 == 1, v5, v6, v7⟩).drew
    rw [← HRR.out, HF.out]
    exact q7_end _ _ w.heap.size ⟨A1, c1, A2, c2, none, 0, 0⟩ ⟨K1, K2, v3, v4 == 1, v5, v6, v7⟩ q7 0 rfl rfl rfl E1 _ ⟨⟨A1, c1, A2, c2, none, 0, 0⟩, rfl, ⟨rfl, rfl, rfl⟩, ⟨own_base E3 (by omega), own_base E4 (by omega)⟩, ⟨own_rd E3 a6.2, own_rd E4 a7.2, by unfold Mh.nums; dsimp only; omega⟩, E2⟩
  · have hne : (e7 != 0) = true := by simpa using he
    rw [if_neg he] at HF
    go_wp2_with fail
    go_region
    go_wp2_with fail
    obtain ⟨a1, a2, a3, -⟩ := Q16_.out
    have E1 := (put8_mb a3 Mc.zero Mh.zero).drew
    have E2 := (put8_below a1 (Nat.le_refl _) Mc.zero Mh.zero).drew
    rw [← HRR.out, HF.out]
    exact q7_end _ _ w.heap.size Mc.zero Mh.zero 0 e7 rfl rfl rfl E1 _ ⟨Mc.zero, rfl, ⟨rfl, rfl, rfl⟩, ⟨World.ownsRow_nil _ _ _ _, World.ownsRow_nil _ _ _ _⟩, Hd.zero _, E2⟩
theorem mread_v (A : Option Addr) (c n : Nat) (l : List Int) (p : Int) (R : Mh × Int × Int) (w : World) (hr : Rd w A c l) (hn : l.length = n) (hw : GM w) (hR : rdQ l p = R) :
    Calls Tryd.prog 110 #[.slice A n c, .int .i64 p] w fun e w' => ∃ x, e = .returned (.tuple #[mv x R.1, .int .i64 R.2.1, .int .i64 R.2.2]) ∧ x.k = 0 ∧ w'.ownsRow w.heap.size 5 1 (.slice x.A R.1.a.length x.c) R.1.a.length (cel R.1.a) ∧ Hd w' x R.1 ∧ Below w.heap.size w w' :=
  (mreadw_v A c n l p R w hr hn hw hR).mono fun _ _ ⟨x, h1, h2, h3, h4⟩ => ⟨x, h1, h2.1, h3.1, h4⟩
end Go.Proofs.YteimpkjpoijhmaaDoor
