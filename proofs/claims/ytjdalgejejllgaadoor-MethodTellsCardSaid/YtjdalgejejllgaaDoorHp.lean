/-
  Layer 7, package method: rows of fields, as function values in memory; what parts answers.
-/
import Derived.Test.YtjdalgejejllgaaDoorHo
import Derived.Test.YtjdalgejejllgaaDoorHt
namespace Go.Proofs.YtjdalgejejllgaaDoor
open Go.RowKit
set_option maxRecDepth 100000
set_option linter.unusedSimpArgs false
set_option linter.unusedVariables false

theorem row_int (x y z : Int) (A : Option Addr) (n c : Nat) (w : World) : Calls Tryd.prog 48 #[fv x y z, .slice A n c] w fun e w' => e = .returned (.agg #[.int .i64 x, .int .i64 y, .int .i64 z, .slice A n c]) ∧ Below w.heap.size w w' := by
  go_enter Tryd.func48, Tryd.ntmps48
  go_wp2_with fail
  exact bodyPost_ret (v := .agg #[.int .i64 x, .int .i64 y, .int .i64 z, .slice A n c]) (by simp [results, Tryd.results48, go_sem]) rfl ⟨rfl, new1.alloc (by simp) _⟩
theorem row_u8 (x y z : Int) (A : Option Addr) (n c : Nat) (w : World) : Calls Tryd.prog 50 #[fv x y z, .slice A n c] w fun e w' => e = .returned (.agg #[.int .i64 x, .int .i64 y, .int .i64 z, .slice A n c]) ∧ Below w.heap.size w w' := by
  go_enter Tryd.func50, Tryd.ntmps50
  go_wp2_with fail
  exact bodyPost_ret (v := .agg #[.int .i64 x, .int .i64 y, .int .i64 z, .slice A n c]) (by simp [results, Tryd.results50, go_sem]) rfl ⟨rfl, new1.alloc (by simp) _⟩
/-! What values there are: a slice of one number; a row of a field's numbers; a function value over such a row. -/
def oneI (t : Nat) (w : World) (v : Value) (e : Int) : Prop := ∃ g, v = .slice (some ⟨g, 0, none⟩) 1 1 ∧ g < w.heap.size ∧ w.cell? ⟨g, 0, none⟩ = some (.int .i64 e) ∧ g ≠ t
def oneU (t : Nat) (w : World) (v : Value) (e : Int) : Prop := ∃ g, v = .slice (some ⟨g, 0, none⟩) 1 1 ∧ Rd w (some ⟨g, 0, none⟩) 1 [e] ∧ g ≠ t
def rowI (t : Nat) (w : World) (v : Value) (x y z e : Int) : Prop := ∃ g, v = .agg #[.int .i64 x, .int .i64 y, .int .i64 z, .slice (some ⟨g, 0, none⟩) 1 1] ∧ g < w.heap.size ∧ w.cell? ⟨g, 0, none⟩ = some (.int .i64 e) ∧ g ≠ t
def rowU (t : Nat) (w : World) (v : Value) (x y z : Int) (l : List Int) : Prop := ∃ A c, v = .agg #[.int .i64 x, .int .i64 y, .int .i64 z, .slice A l.length c] ∧ Rd w A c l ∧ (∀ ad, A = some ad → 0 < l.length → ad.block ≠ t)
def funI (t : Nat) (w : World) (v : Value) (x y z e : Int) : Prop := ∃ g, v = .func (.func 49) #[.agg #[.int .i64 x, .int .i64 y, .int .i64 z, .slice (some ⟨g, 0, none⟩) 1 1]] #[] ∧ g < w.heap.size ∧ w.cell? ⟨g, 0, none⟩ = some (.int .i64 e) ∧ g ≠ t
def funU (t : Nat) (w : World) (v : Value) (x y z : Int) (l : List Int) : Prop := ∃ A c, v = .func (.func 51) #[.agg #[.int .i64 x, .int .i64 y, .int .i64 z, .slice A l.length c]] #[] ∧ Rd w A c l ∧ (∀ ad, A = some ad → 0 < l.length → ad.block ≠ t)
section
variable {t : Nat} {w w' : World} {v : Value} {x y z e : Int} {l : List Int}
theorem funI.form (h : funI t w v x y z e) : ∃ r : Fn × Array Value, v = .func r.1 r.2 #[] := by
  obtain ⟨g, rfl, _⟩ := h; exact ⟨(_, _), rfl⟩
theorem funU.form (h : funU t w v x y z l) : ∃ r : Fn × Array Value, v = .func r.1 r.2 #[] := by
  obtain ⟨A, c, rfl, _⟩ := h; exact ⟨(_, _), rfl⟩
theorem funI.keep (h : funI t w v x y z e) (hb : Below w.heap.size w w') : funI t w' v x y z e := by
  obtain ⟨g, h1, h2, h3, h4⟩ := h
  exact ⟨g, h1, Nat.lt_of_lt_of_le h2 hb.size, (hb.cell h2).trans h3, h4⟩
theorem funU.keep (h : funU t w v x y z l) (hb : Below w.heap.size w w') : funU t w' v x y z l := by
  obtain ⟨A, c, h1, h2, h3⟩ := h
  exact ⟨A, c, h1, h2.keep hb, h3⟩
end
/-- A function value yields these numbers with this field; what it leans on lies in no block t. -/
def PF (t : Nat) (w : World) (v : Value) (f : (Int × Int × Int) × List Int) : Prop := (∃ e, f.2 = [e] ∧ funI t w v f.1.1 f.1.2.1 f.1.2.2 e) ∨ funU t w v f.1.1 f.1.2.1 f.1.2.2 f.2
def PT (m : Mh) : List ((Int × Int × Int) × List Int) := [((1, 0, 4), [(m.a.length : Int)]), ((1, 1, 3), m.a), ((1, 0, (16 - m.a.length)), [(m.l.length : Int)]), ((1, 1, 3), m.l), ((1, 1, 2), [m.r]), ((1, 0, 1), [(fl m.q)]), ((3, 0, 1048576), [m.f]), ((2, 0, 256), [m.s]), ((2, 0, 1024), [m.h])]
def All9 (t : Nat) (w : World) (B : Nat) (m : Mh) : Prop := B < w.heap.size ∧ B ≠ t ∧ ∀ (j : Nat) f, (PT m)[j]? = some f → ∃ v, w.cell? ⟨B, j, none⟩ = some v ∧ PF t w v f
theorem PF.keep {t : Nat} {w w' : World} {v : Value} {f : (Int × Int × Int) × List Int} (h : PF t w v f) (hb : Below w.heap.size w w') : PF t w' v f := by
  rcases h with ⟨e, h1, h2⟩ | h
  · exact .inl ⟨e, h1, h2.keep hb⟩
  · exact .inr (h.keep hb)
theorem All9.keep {t : Nat} {w w' : World} {B : Nat} {m : Mh} (h : All9 t w B m) (hb : Below w.heap.size w w') : All9 t w' B m :=
  ⟨Nat.lt_of_lt_of_le h.1 hb.size, h.2.1, fun j f hf => by obtain ⟨v, h1, h2⟩ := h.2.2 j f hf; exact ⟨v, (hb.cell h.1).trans h1, h2.keep hb⟩⟩
theorem oneI_new {t : Nat} (w : World) (e : Int) (ty : Nat) (h : t < w.heap.size) : oneI t (w.alloc (.cells #[.int .i64 e] ty)) (.slice (some ⟨w.heap.size, 0, none⟩) 1 1) e := ⟨w.heap.size, rfl, by simp, by simp [go_sem], by omega⟩
theorem oneU_new {t : Nat} (w : World) (e : Int) (h : 0 ≤ e ∧ e < 256) (h2 : t < w.heap.size) : oneU t (w.alloc (.cells #[.int .u8 e] 5)) (.slice (some ⟨w.heap.size, 0, none⟩) 1 1) e := ⟨w.heap.size, rfl, rd_one w e h, by omega⟩
theorem gd (a : Act) (s : Nat) : a.tmps[s]?.getD undef = a.tmps.getD s undef := Array.getD_eq_getD_getElem?.symm
/-- The predicates of slots. -/
inductive Sty
  | val (v : Value) | isl (e : Int) | usl (e : Int) | rowI (x y z e : Int) | rowU (x y z : Int) (l : List Int) | funI (x y z e : Int) | funU (x y z : Int) (l : List Int) | all (m : Mh)
def Sty.ok (t : Nat) : Sty → World → Value → Prop
  | .val u, _, v => v = u
  | .isl e, w, v => oneI t w v e
  | .usl e, w, v => oneU t w v e
  | .rowI x y z e, w, v => Proofs.YtjdalgejejllgaaDoor.rowI t w v x y z e
  | .rowU x y z l, w, v => Proofs.YtjdalgejejllgaaDoor.rowU t w v x y z l
  | .funI x y z e, w, v => Proofs.YtjdalgejejllgaaDoor.funI t w v x y z e
  | .funU x y z l, w, v => Proofs.YtjdalgejejllgaaDoor.funU t w v x y z l
  | .all m, w, v => ∃ B, v = .slice (some ⟨B, 0, none⟩) 9 9 ∧ All9 t w B m
theorem Sty.ok_keep {t : Nat} {y : Sty} {w w' : World} {v : Value} (hb : Below w.heap.size w w') (h : y.ok t w v) : y.ok t w' v := by
  cases y with
  | val u => exact h
  | isl e => obtain ⟨g, h1, h2, h3, h4⟩ := h; exact ⟨g, h1, Nat.lt_of_lt_of_le h2 hb.size, (hb.cell h2).trans h3, h4⟩
  | usl e => obtain ⟨g, h1, h2, h3⟩ := h; exact ⟨g, h1, h2.keep hb, h3⟩
  | rowI x y z e => obtain ⟨g, h1, h2, h3, h4⟩ := h; exact ⟨g, h1, Nat.lt_of_lt_of_le h2 hb.size, (hb.cell h2).trans h3, h4⟩
  | rowU x y z l => obtain ⟨A, c, h1, h2, h3⟩ := h; exact ⟨A, c, h1, h2.keep hb, h3⟩
  | funI x y z e => exact funI.keep h hb
  | funU x y z l => exact funU.keep h hb
  | all m => obtain ⟨B, h1, h2⟩ := h; exact ⟨B, h1, h2.keep hb⟩
def tabT (t : Nat) (L : List (Nat × Sty)) (s : Nat) (w : World) (v : Value) : Prop := match L.lookup s with
  | some y => y.ok t w v
  | none => True
theorem tabT_keep {t : Nat} {L : List (Nat × Sty)} {s : Nat} {w w' : World} {v : Value} (hb : Below w.heap.size w w') (h : tabT t L s w v) : tabT t L s w' v := by
  unfold tabT at *
  cases hl : L.lookup s with
  | none => trivial
  | some t => rw [hl] at h; exact Sty.ok_keep hb h
set_option maxHeartbeats 4000000 in
theorem all9_new {t : Nat} {w : World} (hw : t < w.heap.size) {m : Mh} {r0 r1 r2 r3 r4 r5 r6 r7 r8 : Fn × Array Value} {f0 f1 f2 f3 f4 f5 f6 f7 f8 : (Int × Int × Int) × List Int} (hP : PT m = [f0, f1, f2, f3, f4, f5, f6, f7, f8]) (q0 : PF t w (.func r0.1 r0.2 #[]) f0) (q1 : PF t w (.func r1.1 r1.2 #[]) f1) (q2 : PF t w (.func r2.1 r2.2 #[]) f2) (q3 : PF t w (.func r3.1 r3.2 #[]) f3) (q4 : PF t w (.func r4.1 r4.2 #[]) f4) (q5 : PF t w (.func r5.1 r5.2 #[]) f5) (q6 : PF t w (.func r6.1 r6.2 #[]) f6) (q7 : PF t w (.func r7.1 r7.2 #[]) f7) (q8 : PF t w (.func r8.1 r8.2 #[]) f8) (ty : Nat) :
    All9 t (w.alloc (.cells #[.func r0.1 r0.2 #[], .func r1.1 r1.2 #[], .func r2.1 r2.2 #[], .func r3.1 r3.2 #[], .func r4.1 r4.2 #[], .func r5.1 r5.2 #[], .func r6.1 r6.2 #[], .func r7.1 r7.2 #[], .func r8.1 r8.2 #[]] ty)) w.heap.size m := by
  refine ⟨by simp, by omega, fun j f hf => ?_⟩
  rw [hP] at hf
  match j, hf with
  | 0, hf => cases hf; exact ⟨_, by simp [go_sem], q0.keep new1⟩
  | 1, hf => cases hf; exact ⟨_, by simp [go_sem], q1.keep new1⟩
  | 2, hf => cases hf; exact ⟨_, by simp [go_sem], q2.keep new1⟩
  | 3, hf => cases hf; exact ⟨_, by simp [go_sem], q3.keep new1⟩
  | 4, hf => cases hf; exact ⟨_, by simp [go_sem], q4.keep new1⟩
  | 5, hf => cases hf; exact ⟨_, by simp [go_sem], q5.keep new1⟩
  | 6, hf => cases hf; exact ⟨_, by simp [go_sem], q6.keep new1⟩
  | 7, hf => cases hf; exact ⟨_, by simp [go_sem], q7.keep new1⟩
  | 8, hf => cases hf; exact ⟨_, by simp [go_sem], q8.keep new1⟩
def ptab (B : Nat) (x : Mc) (m : Mh) : List (Nat × Sty) := [(2, .all m), (3, .val (fv 1 0 4)), (4, .val (.pointer (some ⟨B, 0, none⟩))), (5, .val (.slice x.A m.a.length x.c)), (6, .val (.int .i64 m.a.length)), (7, .isl (m.a.length : Int)), (8, .rowI 1 0 4 (m.a.length : Int)), (9, .funI 1 0 4 (m.a.length : Int)), (10, .val (fv 1 1 3)), (11, .val (.pointer (some ⟨B, 0, none⟩))), (12, .val (.slice x.A m.a.length x.c)), (13, .rowU 1 1 3 m.a), (14, .funU 1 1 3 m.a), (15, .val (.pointer (some ⟨B, 0, none⟩))), (16, .val (.slice x.A m.a.length x.c)), (17, .val (.int .i64 m.a.length)), (18, .val (fv 1 0 (16 - m.a.length))), (19, .val (.pointer (some ⟨B, 1, none⟩))), (20, .val (.slice x.B m.l.length x.d)), (21, .val (.int .i64 m.l.length)), (22, .isl (m.l.length : Int)), (23, .rowI 1 0 (16 - m.a.length) (m.l.length : Int)), (24, .funI 1 0 (16 - m.a.length) (m.l.length : Int)), (25, .val (fv 1 1 3)), (26, .val (.pointer (some ⟨B, 1, none⟩))), (27, .val (.slice x.B m.l.length x.d)), (28, .rowU 1 1 3 m.l), (29, .funU 1 1 3 m.l), (30, .val (fv 1 1 2)), (31, .val (.pointer (some ⟨B, 2, none⟩))), (32, .val (.int .u8 m.r)), (33, .usl m.r), (34, .rowU 1 1 2 [m.r]), (35, .funU 1 1 2 [m.r]), (36, .val (fv 1 0 1)), (37, .val (.pointer (some ⟨B, 3, none⟩))), (38, .val (.bool m.q)), (39, .val (.int .i64 (fl m.q))), (40, .isl (fl m.q)), (41, .rowI 1 0 1 (fl m.q)), (42, .funI 1 0 1 (fl m.q)), (43, .val (fv 3 0 1048576)), (44, .val (.pointer (some ⟨B, 4, none⟩))), (45, .val (.int .i64 m.f)), (46, .isl m.f), (47, .rowI 3 0 1048576 m.f), (48, .funI 3 0 1048576 m.f), (49, .val (fv 2 0 256)), (50, .val (.pointer (some ⟨B, 5, none⟩))), (51, .val (.int .i64 m.s)), (52, .isl m.s), (53, .rowI 2 0 256 m.s), (54, .funI 2 0 256 m.s), (55, .val (fv 2 0 1024)), (56, .val (.pointer (some ⟨B, 6, none⟩))), (57, .val (.int .i64 m.h)), (58, .isl m.h), (59, .rowI 2 0 1024 m.h), (60, .funI 2 0 1024 m.h), (61, .all m)]
set_option maxHeartbeats 400000 in
theorem ps_0 (t : Nat) (x : Mc) (m : Mh) (B : Nat) (w : World) (Q : Exit → Act → World → Prop) (a0 : Act) (h1 : a0.tmps.getD 1 undef = .pointer (some ⟨B, 0, none⟩)) (hla : m.a.length ≤ 9223372036854775807) (hr8 : 0 ≤ m.r ∧ m.r < 256) (ht : t < w.heap.size) (hA : ∀ ad, x.A = some ad → 0 < m.a.length → ad.block ≠ t) (hB : ∀ ad, x.B = some ad → 0 < m.l.length → ad.block ≠ t) (ty : TypeId) (ps : String) (af : Array Edge) :
    StepOk Tryd.prog Q (tabT t (ptab B x m)) (fun w' => Sx w w' [fM B x m, fGM, fH x m]) a0 [1] { dst := some 3, op := Op.call { callee := Callee.value (Operand.func 42), args := #[Operand.const (Value.int IntKind.i64 4)], argTypes := #[3] }, type := ty, pos := ps, after := af, guard := none } [] := by
  intro a w' hI0 hF hD K hK0
  have hK := Lib.hid hK0
  have hI := Lib.hid hI0
  clear hK0 hI0
  clear hF hD
  go_simp
  refine (count_v 4 _).mono ?_
  rintro e w1 ⟨rfl, hb⟩
  exact hK.out _ _ (hI.out.call hb) hb (fun s hs => by cases hs; rfl)
set_option maxHeartbeats 400000 in
theorem ps_1 (t : Nat) (x : Mc) (m : Mh) (B : Nat) (w : World) (Q : Exit → Act → World → Prop) (a0 : Act) (h1 : a0.tmps.getD 1 undef = .pointer (some ⟨B, 0, none⟩)) (hla : m.a.length ≤ 9223372036854775807) (hr8 : 0 ≤ m.r ∧ m.r < 256) (ht : t < w.heap.size) (hA : ∀ ad, x.A = some ad → 0 < m.a.length → ad.block ≠ t) (hB : ∀ ad, x.B = some ad → 0 < m.l.length → ad.block ≠ t) (ty : TypeId) (ps : String) (af : Array Edge) :
    StepOk Tryd.prog Q (tabT t (ptab B x m)) (fun w' => Sx w w' [fM B x m, fGM, fH x m]) a0 [1] { dst := some 4, op := Op.fieldAddr 25 (Operand.tmp 1) 0, type := ty, pos := ps, after := af, guard := none } [] := by
  intro a w' hI0 hF hD K hK0
  have hK := Lib.hid hK0
  have hI := Lib.hid hI0
  clear hK0 hI0
  have e1 : a.tmps[1]?.getD undef = .pointer (some ⟨B, 0, none⟩) := (gd a 1).trans ((hF 1 (by simp)).trans h1)
  clear hF hD
  go_simp
  exact hK.out _ _ hI.out (Below.refl _ _) (fun s hs => by cases hs; rfl)
set_option maxHeartbeats 400000 in
theorem ps_2 (t : Nat) (x : Mc) (m : Mh) (B : Nat) (w : World) (Q : Exit → Act → World → Prop) (a0 : Act) (h1 : a0.tmps.getD 1 undef = .pointer (some ⟨B, 0, none⟩)) (hla : m.a.length ≤ 9223372036854775807) (hr8 : 0 ≤ m.r ∧ m.r < 256) (ht : t < w.heap.size) (hA : ∀ ad, x.A = some ad → 0 < m.a.length → ad.block ≠ t) (hB : ∀ ad, x.B = some ad → 0 < m.l.length → ad.block ≠ t) (ty : TypeId) (ps : String) (af : Array Edge) :
    StepOk Tryd.prog Q (tabT t (ptab B x m)) (fun w' => Sx w w' [fM B x m, fGM, fH x m]) a0 [1] { dst := some 5, op := Op.load 22 (Operand.tmp 4), type := ty, pos := ps, after := af, guard := none } [4] := by
  intro a w' hI0 hF hD K hK0
  have hK := Lib.hid hK0
  have hI := Lib.hid hI0
  clear hK0 hI0
  have e4 : a.tmps[4]?.getD undef = .pointer (some ⟨B, 0, none⟩) := (gd a 4).trans (hD 4 (by simp))
  obtain ⟨b0, z0, z1, z2, z3, z4, z5, z6, z7⟩ := hI.out.2.1
  clear hF hD
  go_simp
  exact hK.out _ _ hI.out (Below.refl _ _) (fun s hs => by cases hs; rfl)
set_option maxHeartbeats 400000 in
theorem ps_3 (t : Nat) (x : Mc) (m : Mh) (B : Nat) (w : World) (Q : Exit → Act → World → Prop) (a0 : Act) (h1 : a0.tmps.getD 1 undef = .pointer (some ⟨B, 0, none⟩)) (hla : m.a.length ≤ 9223372036854775807) (hr8 : 0 ≤ m.r ∧ m.r < 256) (ht : t < w.heap.size) (hA : ∀ ad, x.A = some ad → 0 < m.a.length → ad.block ≠ t) (hB : ∀ ad, x.B = some ad → 0 < m.l.length → ad.block ≠ t) (ty : TypeId) (ps : String) (af : Array Edge) :
    StepOk Tryd.prog Q (tabT t (ptab B x m)) (fun w' => Sx w w' [fM B x m, fGM, fH x m]) a0 [1] { dst := some 6, op := Op.call { callee := Callee.builtin Builtin.len, args := #[Operand.tmp 5], argTypes := #[22] }, type := ty, pos := ps, after := af, guard := none } [5] := by
  intro a w' hI0 hF hD K hK0
  have hK := Lib.hid hK0
  have hI := Lib.hid hI0
  clear hK0 hI0
  have e5 : a.tmps[5]?.getD undef = .slice x.A m.a.length x.c := (gd a 5).trans (hD 5 (by simp))
  clear hF hD
  go_simp
  exact hK.out _ _ hI.out (Below.refl _ _) (fun s hs => by cases hs; rfl)
set_option maxHeartbeats 400000 in
theorem ps_4 (t : Nat) (x : Mc) (m : Mh) (B : Nat) (w : World) (Q : Exit → Act → World → Prop) (a0 : Act) (h1 : a0.tmps.getD 1 undef = .pointer (some ⟨B, 0, none⟩)) (hla : m.a.length ≤ 9223372036854775807) (hr8 : 0 ≤ m.r ∧ m.r < 256) (ht : t < w.heap.size) (hA : ∀ ad, x.A = some ad → 0 < m.a.length → ad.block ≠ t) (hB : ∀ ad, x.B = some ad → 0 < m.l.length → ad.block ≠ t) (ty : TypeId) (ps : String) (af : Array Edge) :
    StepOk Tryd.prog Q (tabT t (ptab B x m)) (fun w' => Sx w w' [fM B x m, fGM, fH x m]) a0 [1] { dst := some 7, op := Op.buildSlice 76 1 #[(0, Operand.tmp 6)], type := ty, pos := ps, after := af, guard := none } [6] := by
  intro a w' hI0 hF hD K hK0
  have hK := Lib.hid hK0
  have hI := Lib.hid hI0
  clear hK0 hI0
  have e6 : a.tmps[6]?.getD undef = .int .i64 m.a.length := (gd a 6).trans (hD 6 (by simp))
  clear hF hD
  go_simp
  exact hK.out _ _ (hI.out.mk1 _) new1 (fun s hs => by cases hs; exact oneI_new _ _ _ (by have := hI.out.1.size; omega))
set_option maxHeartbeats 400000 in
theorem ps_5 (t : Nat) (x : Mc) (m : Mh) (B : Nat) (w : World) (Q : Exit → Act → World → Prop) (a0 : Act) (h1 : a0.tmps.getD 1 undef = .pointer (some ⟨B, 0, none⟩)) (hla : m.a.length ≤ 9223372036854775807) (hr8 : 0 ≤ m.r ∧ m.r < 256) (ht : t < w.heap.size) (hA : ∀ ad, x.A = some ad → 0 < m.a.length → ad.block ≠ t) (hB : ∀ ad, x.B = some ad → 0 < m.l.length → ad.block ≠ t) (ty : TypeId) (ps : String) (af : Array Edge) :
    StepOk Tryd.prog Q (tabT t (ptab B x m)) (fun w' => Sx w w' [fM B x m, fGM, fH x m]) a0 [1] { dst := some 8, op := Op.call { callee := Callee.value (Operand.func 48), args := #[Operand.tmp 3, Operand.tmp 7], argTypes := #[59, 76] }, type := ty, pos := ps, after := af, guard := none } [3, 7] := by
  intro a w' hI0 hF hD K hK0
  have hK := Lib.hid hK0
  have hI := Lib.hid hI0
  clear hK0 hI0
  have e3 : a.tmps[3]?.getD undef = fv 1 0 4 := (gd a 3).trans (hD 3 (by simp))
  obtain ⟨g, e7, hg, hc, hne⟩ : oneI t w' (a.tmps[7]?.getD undef) (m.a.length : Int) := by rw [gd]; exact hD 7 (by simp)
  clear hF hD
  go_simp
  refine (row_int _ _ _ _ _ _ _).mono ?_
  rintro e w1 ⟨rfl, hb⟩
  exact hK.out _ _ (hI.out.call hb) hb (fun s hs => by cases hs; exact ⟨g, rfl, Nat.lt_of_lt_of_le hg hb.size, (hb.cell hg).trans hc, hne⟩)
set_option maxHeartbeats 400000 in
theorem ps_6 (t : Nat) (x : Mc) (m : Mh) (B : Nat) (w : World) (Q : Exit → Act → World → Prop) (a0 : Act) (h1 : a0.tmps.getD 1 undef = .pointer (some ⟨B, 0, none⟩)) (hla : m.a.length ≤ 9223372036854775807) (hr8 : 0 ≤ m.r ∧ m.r < 256) (ht : t < w.heap.size) (hA : ∀ ad, x.A = some ad → 0 < m.a.length → ad.block ≠ t) (hB : ∀ ad, x.B = some ad → 0 < m.l.length → ad.block ≠ t) (ty : TypeId) (ps : String) (af : Array Edge) :
    StepOk Tryd.prog Q (tabT t (ptab B x m)) (fun w' => Sx w w' [fM B x m, fGM, fH x m]) a0 [1] { dst := some 9, op := Op.makeFunc (Fn.func 49) #[Operand.tmp 8] #[], type := ty, pos := ps, after := af, guard := none } [8] := by
  intro a w' hI0 hF hD K hK0
  have hK := Lib.hid hK0
  have hI := Lib.hid hI0
  clear hK0 hI0
  obtain ⟨g, e8, hg, hc, hne⟩ : rowI t w' (a.tmps[8]?.getD undef) 1 0 4 (m.a.length : Int) := by rw [gd]; exact hD 8 (by simp)
  unfold Oper.wp execOp
  simp only [List.map_toArray, List.map_cons, List.map_nil, Act.eval, Array.getD_eq_getD_getElem?, e8]
  exact hK.out _ _ hI.out (Below.refl _ _) (fun s hs => by cases hs; exact ⟨g, rfl, hg, hc, hne⟩)
set_option maxHeartbeats 400000 in
theorem ps_7 (t : Nat) (x : Mc) (m : Mh) (B : Nat) (w : World) (Q : Exit → Act → World → Prop) (a0 : Act) (h1 : a0.tmps.getD 1 undef = .pointer (some ⟨B, 0, none⟩)) (hla : m.a.length ≤ 9223372036854775807) (hr8 : 0 ≤ m.r ∧ m.r < 256) (ht : t < w.heap.size) (hA : ∀ ad, x.A = some ad → 0 < m.a.length → ad.block ≠ t) (hB : ∀ ad, x.B = some ad → 0 < m.l.length → ad.block ≠ t) (ty : TypeId) (ps : String) (af : Array Edge) :
    StepOk Tryd.prog Q (tabT t (ptab B x m)) (fun w' => Sx w w' [fM B x m, fGM, fH x m]) a0 [1] { dst := some 10, op := Op.load 59 (Operand.global 5), type := ty, pos := ps, after := af, guard := none } [] := by
  intro a w' hI0 hF hD K hK0
  have hK := Lib.hid hK0
  have hI := Lib.hid hI0
  clear hK0 hI0
  obtain ⟨b0, z0, z1, z2⟩ := hI.out.2.2.1.1
  clear hF hD
  go_simp
  exact hK.out _ _ hI.out (Below.refl _ _) (fun s hs => by cases hs; rfl)
set_option maxHeartbeats 400000 in
theorem ps_8 (t : Nat) (x : Mc) (m : Mh) (B : Nat) (w : World) (Q : Exit → Act → World → Prop) (a0 : Act) (h1 : a0.tmps.getD 1 undef = .pointer (some ⟨B, 0, none⟩)) (hla : m.a.length ≤ 9223372036854775807) (hr8 : 0 ≤ m.r ∧ m.r < 256) (ht : t < w.heap.size) (hA : ∀ ad, x.A = some ad → 0 < m.a.length → ad.block ≠ t) (hB : ∀ ad, x.B = some ad → 0 < m.l.length → ad.block ≠ t) (ty : TypeId) (ps : String) (af : Array Edge) :
    StepOk Tryd.prog Q (tabT t (ptab B x m)) (fun w' => Sx w w' [fM B x m, fGM, fH x m]) a0 [1] { dst := some 11, op := Op.fieldAddr 25 (Operand.tmp 1) 0, type := ty, pos := ps, after := af, guard := none } [] := by
  intro a w' hI0 hF hD K hK0
  have hK := Lib.hid hK0
  have hI := Lib.hid hI0
  clear hK0 hI0
  have e1 : a.tmps[1]?.getD undef = .pointer (some ⟨B, 0, none⟩) := (gd a 1).trans ((hF 1 (by simp)).trans h1)
  clear hF hD
  go_simp
  exact hK.out _ _ hI.out (Below.refl _ _) (fun s hs => by cases hs; rfl)
set_option maxHeartbeats 400000 in
theorem ps_9 (t : Nat) (x : Mc) (m : Mh) (B : Nat) (w : World) (Q : Exit → Act → World → Prop) (a0 : Act) (h1 : a0.tmps.getD 1 undef = .pointer (some ⟨B, 0, none⟩)) (hla : m.a.length ≤ 9223372036854775807) (hr8 : 0 ≤ m.r ∧ m.r < 256) (ht : t < w.heap.size) (hA : ∀ ad, x.A = some ad → 0 < m.a.length → ad.block ≠ t) (hB : ∀ ad, x.B = some ad → 0 < m.l.length → ad.block ≠ t) (ty : TypeId) (ps : String) (af : Array Edge) :
    StepOk Tryd.prog Q (tabT t (ptab B x m)) (fun w' => Sx w w' [fM B x m, fGM, fH x m]) a0 [1] { dst := some 12, op := Op.load 22 (Operand.tmp 11), type := ty, pos := ps, after := af, guard := none } [11] := by
  intro a w' hI0 hF hD K hK0
  have hK := Lib.hid hK0
  have hI := Lib.hid hI0
  clear hK0 hI0
  have e11 : a.tmps[11]?.getD undef = .pointer (some ⟨B, 0, none⟩) := (gd a 11).trans (hD 11 (by simp))
  obtain ⟨b0, z0, z1, z2, z3, z4, z5, z6, z7⟩ := hI.out.2.1
  clear hF hD
  go_simp
  exact hK.out _ _ hI.out (Below.refl _ _) (fun s hs => by cases hs; rfl)
set_option maxHeartbeats 400000 in
theorem ps_10 (t : Nat) (x : Mc) (m : Mh) (B : Nat) (w : World) (Q : Exit → Act → World → Prop) (a0 : Act) (h1 : a0.tmps.getD 1 undef = .pointer (some ⟨B, 0, none⟩)) (hla : m.a.length ≤ 9223372036854775807) (hr8 : 0 ≤ m.r ∧ m.r < 256) (ht : t < w.heap.size) (hA : ∀ ad, x.A = some ad → 0 < m.a.length → ad.block ≠ t) (hB : ∀ ad, x.B = some ad → 0 < m.l.length → ad.block ≠ t) (ty : TypeId) (ps : String) (af : Array Edge) :
    StepOk Tryd.prog Q (tabT t (ptab B x m)) (fun w' => Sx w w' [fM B x m, fGM, fH x m]) a0 [1] { dst := some 13, op := Op.call { callee := Callee.value (Operand.func 50), args := #[Operand.tmp 10, Operand.tmp 12], argTypes := #[59, 22] }, type := ty, pos := ps, after := af, guard := none } [10, 12] := by
  intro a w' hI0 hF hD K hK0
  have hK := Lib.hid hK0
  have hI := Lib.hid hI0
  clear hK0 hI0
  have e10 : a.tmps[10]?.getD undef = fv 1 1 3 := (gd a 10).trans (hD 10 (by simp))
  have e12 : a.tmps[12]?.getD undef = .slice x.A m.a.length x.c := (gd a 12).trans (hD 12 (by simp))
  clear hF hD
  go_simp
  refine (row_u8 _ _ _ _ _ _ _).mono ?_
  rintro e w1 ⟨rfl, hb⟩
  exact hK.out _ _ (hI.out.call hb) hb (fun s hs => by cases hs; exact ⟨_, _, rfl, (hI.out.call hb).2.2.2.1.1, hA⟩)
set_option maxHeartbeats 400000 in
theorem ps_11 (t : Nat) (x : Mc) (m : Mh) (B : Nat) (w : World) (Q : Exit → Act → World → Prop) (a0 : Act) (h1 : a0.tmps.getD 1 undef = .pointer (some ⟨B, 0, none⟩)) (hla : m.a.length ≤ 9223372036854775807) (hr8 : 0 ≤ m.r ∧ m.r < 256) (ht : t < w.heap.size) (hA : ∀ ad, x.A = some ad → 0 < m.a.length → ad.block ≠ t) (hB : ∀ ad, x.B = some ad → 0 < m.l.length → ad.block ≠ t) (ty : TypeId) (ps : String) (af : Array Edge) :
    StepOk Tryd.prog Q (tabT t (ptab B x m)) (fun w' => Sx w w' [fM B x m, fGM, fH x m]) a0 [1] { dst := some 14, op := Op.makeFunc (Fn.func 51) #[Operand.tmp 13] #[], type := ty, pos := ps, after := af, guard := none } [13] := by
  intro a w' hI0 hF hD K hK0
  have hK := Lib.hid hK0
  have hI := Lib.hid hI0
  clear hK0 hI0
  obtain ⟨A, c, e13, hrd, hne⟩ : rowU t w' (a.tmps[13]?.getD undef) 1 1 3 m.a := by rw [gd]; exact hD 13 (by simp)
  unfold Oper.wp execOp
  simp only [List.map_toArray, List.map_cons, List.map_nil, Act.eval, Array.getD_eq_getD_getElem?, e13]
  exact hK.out _ _ hI.out (Below.refl _ _) (fun s hs => by cases hs; exact ⟨A, c, rfl, hrd, hne⟩)
set_option maxHeartbeats 400000 in
theorem ps_12 (t : Nat) (x : Mc) (m : Mh) (B : Nat) (w : World) (Q : Exit → Act → World → Prop) (a0 : Act) (h1 : a0.tmps.getD 1 undef = .pointer (some ⟨B, 0, none⟩)) (hla : m.a.length ≤ 9223372036854775807) (hr8 : 0 ≤ m.r ∧ m.r < 256) (ht : t < w.heap.size) (hA : ∀ ad, x.A = some ad → 0 < m.a.length → ad.block ≠ t) (hB : ∀ ad, x.B = some ad → 0 < m.l.length → ad.block ≠ t) (ty : TypeId) (ps : String) (af : Array Edge) :
    StepOk Tryd.prog Q (tabT t (ptab B x m)) (fun w' => Sx w w' [fM B x m, fGM, fH x m]) a0 [1] { dst := some 15, op := Op.fieldAddr 25 (Operand.tmp 1) 0, type := ty, pos := ps, after := af, guard := none } [] := by
  intro a w' hI0 hF hD K hK0
  have hK := Lib.hid hK0
  have hI := Lib.hid hI0
  clear hK0 hI0
  have e1 : a.tmps[1]?.getD undef = .pointer (some ⟨B, 0, none⟩) := (gd a 1).trans ((hF 1 (by simp)).trans h1)
  clear hF hD
  go_simp
  exact hK.out _ _ hI.out (Below.refl _ _) (fun s hs => by cases hs; rfl)
set_option maxHeartbeats 400000 in
theorem ps_13 (t : Nat) (x : Mc) (m : Mh) (B : Nat) (w : World) (Q : Exit → Act → World → Prop) (a0 : Act) (h1 : a0.tmps.getD 1 undef = .pointer (some ⟨B, 0, none⟩)) (hla : m.a.length ≤ 9223372036854775807) (hr8 : 0 ≤ m.r ∧ m.r < 256) (ht : t < w.heap.size) (hA : ∀ ad, x.A = some ad → 0 < m.a.length → ad.block ≠ t) (hB : ∀ ad, x.B = some ad → 0 < m.l.length → ad.block ≠ t) (ty : TypeId) (ps : String) (af : Array Edge) :
    StepOk Tryd.prog Q (tabT t (ptab B x m)) (fun w' => Sx w w' [fM B x m, fGM, fH x m]) a0 [1] { dst := some 16, op := Op.load 22 (Operand.tmp 15), type := ty, pos := ps, after := af, guard := none } [15] := by
  intro a w' hI0 hF hD K hK0
  have hK := Lib.hid hK0
  have hI := Lib.hid hI0
  clear hK0 hI0
  have e15 : a.tmps[15]?.getD undef = .pointer (some ⟨B, 0, none⟩) := (gd a 15).trans (hD 15 (by simp))
  obtain ⟨b0, z0, z1, z2, z3, z4, z5, z6, z7⟩ := hI.out.2.1
  clear hF hD
  go_simp
  exact hK.out _ _ hI.out (Below.refl _ _) (fun s hs => by cases hs; rfl)
set_option maxHeartbeats 400000 in
theorem ps_14 (t : Nat) (x : Mc) (m : Mh) (B : Nat) (w : World) (Q : Exit → Act → World → Prop) (a0 : Act) (h1 : a0.tmps.getD 1 undef = .pointer (some ⟨B, 0, none⟩)) (hla : m.a.length ≤ 9223372036854775807) (hr8 : 0 ≤ m.r ∧ m.r < 256) (ht : t < w.heap.size) (hA : ∀ ad, x.A = some ad → 0 < m.a.length → ad.block ≠ t) (hB : ∀ ad, x.B = some ad → 0 < m.l.length → ad.block ≠ t) (ty : TypeId) (ps : String) (af : Array Edge) :
    StepOk Tryd.prog Q (tabT t (ptab B x m)) (fun w' => Sx w w' [fM B x m, fGM, fH x m]) a0 [1] { dst := some 17, op := Op.call { callee := Callee.builtin Builtin.len, args := #[Operand.tmp 16], argTypes := #[22] }, type := ty, pos := ps, after := af, guard := none } [16] := by
  intro a w' hI0 hF hD K hK0
  have hK := Lib.hid hK0
  have hI := Lib.hid hI0
  clear hK0 hI0
  have e16 : a.tmps[16]?.getD undef = .slice x.A m.a.length x.c := (gd a 16).trans (hD 16 (by simp))
  clear hF hD
  go_simp
  exact hK.out _ _ hI.out (Below.refl _ _) (fun s hs => by cases hs; rfl)
set_option maxHeartbeats 400000 in
theorem ps_15 (t : Nat) (x : Mc) (m : Mh) (B : Nat) (w : World) (Q : Exit → Act → World → Prop) (a0 : Act) (h1 : a0.tmps.getD 1 undef = .pointer (some ⟨B, 0, none⟩)) (hla : m.a.length ≤ 9223372036854775807) (hr8 : 0 ≤ m.r ∧ m.r < 256) (ht : t < w.heap.size) (hA : ∀ ad, x.A = some ad → 0 < m.a.length → ad.block ≠ t) (hB : ∀ ad, x.B = some ad → 0 < m.l.length → ad.block ≠ t) (ty : TypeId) (ps : String) (af : Array Edge) :
    StepOk Tryd.prog Q (tabT t (ptab B x m)) (fun w' => Sx w w' [fM B x m, fGM, fH x m]) a0 [1] { dst := some 18, op := Op.call { callee := Callee.value (Operand.func 43), args := #[Operand.tmp 17], argTypes := #[3] }, type := ty, pos := ps, after := af, guard := none } [17] := by
  intro a w' hI0 hF hD K hK0
  have hK := Lib.hid hK0
  have hI := Lib.hid hI0
  clear hK0 hI0
  have e17 : a.tmps[17]?.getD undef = .int .i64 m.a.length := (gd a 17).trans (hD 17 (by simp))
  clear hF hD
  go_simp
  refine (other_v _ _ (by omega) (by omega)).mono ?_
  rintro e w1 ⟨rfl, hb⟩
  exact hK.out _ _ (hI.out.call hb) hb (fun s hs => by cases hs; rfl)
set_option maxHeartbeats 400000 in
theorem ps_16 (t : Nat) (x : Mc) (m : Mh) (B : Nat) (w : World) (Q : Exit → Act → World → Prop) (a0 : Act) (h1 : a0.tmps.getD 1 undef = .pointer (some ⟨B, 0, none⟩)) (hla : m.a.length ≤ 9223372036854775807) (hr8 : 0 ≤ m.r ∧ m.r < 256) (ht : t < w.heap.size) (hA : ∀ ad, x.A = some ad → 0 < m.a.length → ad.block ≠ t) (hB : ∀ ad, x.B = some ad → 0 < m.l.length → ad.block ≠ t) (ty : TypeId) (ps : String) (af : Array Edge) :
    StepOk Tryd.prog Q (tabT t (ptab B x m)) (fun w' => Sx w w' [fM B x m, fGM, fH x m]) a0 [1] { dst := some 19, op := Op.fieldAddr 25 (Operand.tmp 1) 1, type := ty, pos := ps, after := af, guard := none } [] := by
  intro a w' hI0 hF hD K hK0
  have hK := Lib.hid hK0
  have hI := Lib.hid hI0
  clear hK0 hI0
  have e1 : a.tmps[1]?.getD undef = .pointer (some ⟨B, 0, none⟩) := (gd a 1).trans ((hF 1 (by simp)).trans h1)
  clear hF hD
  go_simp
  exact hK.out _ _ hI.out (Below.refl _ _) (fun s hs => by cases hs; rfl)
set_option maxHeartbeats 400000 in
theorem ps_17 (t : Nat) (x : Mc) (m : Mh) (B : Nat) (w : World) (Q : Exit → Act → World → Prop) (a0 : Act) (h1 : a0.tmps.getD 1 undef = .pointer (some ⟨B, 0, none⟩)) (hla : m.a.length ≤ 9223372036854775807) (hr8 : 0 ≤ m.r ∧ m.r < 256) (ht : t < w.heap.size) (hA : ∀ ad, x.A = some ad → 0 < m.a.length → ad.block ≠ t) (hB : ∀ ad, x.B = some ad → 0 < m.l.length → ad.block ≠ t) (ty : TypeId) (ps : String) (af : Array Edge) :
    StepOk Tryd.prog Q (tabT t (ptab B x m)) (fun w' => Sx w w' [fM B x m, fGM, fH x m]) a0 [1] { dst := some 20, op := Op.load 22 (Operand.tmp 19), type := ty, pos := ps, after := af, guard := none } [19] := by
  intro a w' hI0 hF hD K hK0
  have hK := Lib.hid hK0
  have hI := Lib.hid hI0
  clear hK0 hI0
  have e19 : a.tmps[19]?.getD undef = .pointer (some ⟨B, 1, none⟩) := (gd a 19).trans (hD 19 (by simp))
  obtain ⟨b0, z0, z1, z2, z3, z4, z5, z6, z7⟩ := hI.out.2.1
  clear hF hD
  go_simp
  exact hK.out _ _ hI.out (Below.refl _ _) (fun s hs => by cases hs; rfl)
set_option maxHeartbeats 400000 in
theorem ps_18 (t : Nat) (x : Mc) (m : Mh) (B : Nat) (w : World) (Q : Exit → Act → World → Prop) (a0 : Act) (h1 : a0.tmps.getD 1 undef = .pointer (some ⟨B, 0, none⟩)) (hla : m.a.length ≤ 9223372036854775807) (hr8 : 0 ≤ m.r ∧ m.r < 256) (ht : t < w.heap.size) (hA : ∀ ad, x.A = some ad → 0 < m.a.length → ad.block ≠ t) (hB : ∀ ad, x.B = some ad → 0 < m.l.length → ad.block ≠ t) (ty : TypeId) (ps : String) (af : Array Edge) :
    StepOk Tryd.prog Q (tabT t (ptab B x m)) (fun w' => Sx w w' [fM B x m, fGM, fH x m]) a0 [1] { dst := some 21, op := Op.call { callee := Callee.builtin Builtin.len, args := #[Operand.tmp 20], argTypes := #[22] }, type := ty, pos := ps, after := af, guard := none } [20] := by
  intro a w' hI0 hF hD K hK0
  have hK := Lib.hid hK0
  have hI := Lib.hid hI0
  clear hK0 hI0
  have e20 : a.tmps[20]?.getD undef = .slice x.B m.l.length x.d := (gd a 20).trans (hD 20 (by simp))
  clear hF hD
  go_simp
  exact hK.out _ _ hI.out (Below.refl _ _) (fun s hs => by cases hs; rfl)
set_option maxHeartbeats 400000 in
theorem ps_19 (t : Nat) (x : Mc) (m : Mh) (B : Nat) (w : World) (Q : Exit → Act → World → Prop) (a0 : Act) (h1 : a0.tmps.getD 1 undef = .pointer (some ⟨B, 0, none⟩)) (hla : m.a.length ≤ 9223372036854775807) (hr8 : 0 ≤ m.r ∧ m.r < 256) (ht : t < w.heap.size) (hA : ∀ ad, x.A = some ad → 0 < m.a.length → ad.block ≠ t) (hB : ∀ ad, x.B = some ad → 0 < m.l.length → ad.block ≠ t) (ty : TypeId) (ps : String) (af : Array Edge) :
    StepOk Tryd.prog Q (tabT t (ptab B x m)) (fun w' => Sx w w' [fM B x m, fGM, fH x m]) a0 [1] { dst := some 22, op := Op.buildSlice 76 1 #[(0, Operand.tmp 21)], type := ty, pos := ps, after := af, guard := none } [21] := by
  intro a w' hI0 hF hD K hK0
  have hK := Lib.hid hK0
  have hI := Lib.hid hI0
  clear hK0 hI0
  have e21 : a.tmps[21]?.getD undef = .int .i64 m.l.length := (gd a 21).trans (hD 21 (by simp))
  clear hF hD
  go_simp
  exact hK.out _ _ (hI.out.mk1 _) new1 (fun s hs => by cases hs; exact oneI_new _ _ _ (by have := hI.out.1.size; omega))
set_option maxHeartbeats 400000 in
theorem ps_20 (t : Nat) (x : Mc) (m : Mh) (B : Nat) (w : World) (Q : Exit → Act → World → Prop) (a0 : Act) (h1 : a0.tmps.getD 1 undef = .pointer (some ⟨B, 0, none⟩)) (hla : m.a.length ≤ 9223372036854775807) (hr8 : 0 ≤ m.r ∧ m.r < 256) (ht : t < w.heap.size) (hA : ∀ ad, x.A = some ad → 0 < m.a.length → ad.block ≠ t) (hB : ∀ ad, x.B = some ad → 0 < m.l.length → ad.block ≠ t) (ty : TypeId) (ps : String) (af : Array Edge) :
    StepOk Tryd.prog Q (tabT t (ptab B x m)) (fun w' => Sx w w' [fM B x m, fGM, fH x m]) a0 [1] { dst := some 23, op := Op.call { callee := Callee.value (Operand.func 48), args := #[Operand.tmp 18, Operand.tmp 22], argTypes := #[59, 76] }, type := ty, pos := ps, after := af, guard := none } [18, 22] := by
  intro a w' hI0 hF hD K hK0
  have hK := Lib.hid hK0
  have hI := Lib.hid hI0
  clear hK0 hI0
  have e18 : a.tmps[18]?.getD undef = fv 1 0 (16 - m.a.length) := (gd a 18).trans (hD 18 (by simp))
  obtain ⟨g, e22, hg, hc, hne⟩ : oneI t w' (a.tmps[22]?.getD undef) (m.l.length : Int) := by rw [gd]; exact hD 22 (by simp)
  clear hF hD
  go_simp
  refine (row_int _ _ _ _ _ _ _).mono ?_
  rintro e w1 ⟨rfl, hb⟩
  exact hK.out _ _ (hI.out.call hb) hb (fun s hs => by cases hs; exact ⟨g, rfl, Nat.lt_of_lt_of_le hg hb.size, (hb.cell hg).trans hc, hne⟩)
set_option maxHeartbeats 400000 in
theorem ps_21 (t : Nat) (x : Mc) (m : Mh) (B : Nat) (w : World) (Q : Exit → Act → World → Prop) (a0 : Act) (h1 : a0.tmps.getD 1 undef = .pointer (some ⟨B, 0, none⟩)) (hla : m.a.length ≤ 9223372036854775807) (hr8 : 0 ≤ m.r ∧ m.r < 256) (ht : t < w.heap.size) (hA : ∀ ad, x.A = some ad → 0 < m.a.length → ad.block ≠ t) (hB : ∀ ad, x.B = some ad → 0 < m.l.length → ad.block ≠ t) (ty : TypeId) (ps : String) (af : Array Edge) :
    StepOk Tryd.prog Q (tabT t (ptab B x m)) (fun w' => Sx w w' [fM B x m, fGM, fH x m]) a0 [1] { dst := some 24, op := Op.makeFunc (Fn.func 49) #[Operand.tmp 23] #[], type := ty, pos := ps, after := af, guard := none } [23] := by
  intro a w' hI0 hF hD K hK0
  have hK := Lib.hid hK0
  have hI := Lib.hid hI0
  clear hK0 hI0
  obtain ⟨g, e23, hg, hc, hne⟩ : rowI t w' (a.tmps[23]?.getD undef) 1 0 (16 - m.a.length) (m.l.length : Int) := by rw [gd]; exact hD 23 (by simp)
  unfold Oper.wp execOp
  simp only [List.map_toArray, List.map_cons, List.map_nil, Act.eval, Array.getD_eq_getD_getElem?, e23]
  exact hK.out _ _ hI.out (Below.refl _ _) (fun s hs => by cases hs; exact ⟨g, rfl, hg, hc, hne⟩)
set_option maxHeartbeats 400000 in
theorem ps_22 (t : Nat) (x : Mc) (m : Mh) (B : Nat) (w : World) (Q : Exit → Act → World → Prop) (a0 : Act) (h1 : a0.tmps.getD 1 undef = .pointer (some ⟨B, 0, none⟩)) (hla : m.a.length ≤ 9223372036854775807) (hr8 : 0 ≤ m.r ∧ m.r < 256) (ht : t < w.heap.size) (hA : ∀ ad, x.A = some ad → 0 < m.a.length → ad.block ≠ t) (hB : ∀ ad, x.B = some ad → 0 < m.l.length → ad.block ≠ t) (ty : TypeId) (ps : String) (af : Array Edge) :
    StepOk Tryd.prog Q (tabT t (ptab B x m)) (fun w' => Sx w w' [fM B x m, fGM, fH x m]) a0 [1] { dst := some 25, op := Op.load 59 (Operand.global 5), type := ty, pos := ps, after := af, guard := none } [] := by
  intro a w' hI0 hF hD K hK0
  have hK := Lib.hid hK0
  have hI := Lib.hid hI0
  clear hK0 hI0
  obtain ⟨b0, z0, z1, z2⟩ := hI.out.2.2.1.1
  clear hF hD
  go_simp
  exact hK.out _ _ hI.out (Below.refl _ _) (fun s hs => by cases hs; rfl)
set_option maxHeartbeats 400000 in
theorem ps_23 (t : Nat) (x : Mc) (m : Mh) (B : Nat) (w : World) (Q : Exit → Act → World → Prop) (a0 : Act) (h1 : a0.tmps.getD 1 undef = .pointer (some ⟨B, 0, none⟩)) (hla : m.a.length ≤ 9223372036854775807) (hr8 : 0 ≤ m.r ∧ m.r < 256) (ht : t < w.heap.size) (hA : ∀ ad, x.A = some ad → 0 < m.a.length → ad.block ≠ t) (hB : ∀ ad, x.B = some ad → 0 < m.l.length → ad.block ≠ t) (ty : TypeId) (ps : String) (af : Array Edge) :
    StepOk Tryd.prog Q (tabT t (ptab B x m)) (fun w' => Sx w w' [fM B x m, fGM, fH x m]) a0 [1] { dst := some 26, op := Op.fieldAddr 25 (Operand.tmp 1) 1, type := ty, pos := ps, after := af, guard := none } [] := by
  intro a w' hI0 hF hD K hK0
  have hK := Lib.hid hK0
  have hI := Lib.hid hI0
  clear hK0 hI0
  have e1 : a.tmps[1]?.getD undef = .pointer (some ⟨B, 0, none⟩) := (gd a 1).trans ((hF 1 (by simp)).trans h1)
  clear hF hD
  go_simp
  exact hK.out _ _ hI.out (Below.refl _ _) (fun s hs => by cases hs; rfl)
set_option maxHeartbeats 400000 in
theorem ps_24 (t : Nat) (x : Mc) (m : Mh) (B : Nat) (w : World) (Q : Exit → Act → World → Prop) (a0 : Act) (h1 : a0.tmps.getD 1 undef = .pointer (some ⟨B, 0, none⟩)) (hla : m.a.length ≤ 9223372036854775807) (hr8 : 0 ≤ m.r ∧ m.r < 256) (ht : t < w.heap.size) (hA : ∀ ad, x.A = some ad → 0 < m.a.length → ad.block ≠ t) (hB : ∀ ad, x.B = some ad → 0 < m.l.length → ad.block ≠ t) (ty : TypeId) (ps : String) (af : Array Edge) :
    StepOk Tryd.prog Q (tabT t (ptab B x m)) (fun w' => Sx w w' [fM B x m, fGM, fH x m]) a0 [1] { dst := some 27, op := Op.load 22 (Operand.tmp 26), type := ty, pos := ps, after := af, guard := none } [26] := by
  intro a w' hI0 hF hD K hK0
  have hK := Lib.hid hK0
  have hI := Lib.hid hI0
  clear hK0 hI0
  have e26 : a.tmps[26]?.getD undef = .pointer (some ⟨B, 1, none⟩) := (gd a 26).trans (hD 26 (by simp))
  obtain ⟨b0, z0, z1, z2, z3, z4, z5, z6, z7⟩ := hI.out.2.1
  clear hF hD
  go_simp
  exact hK.out _ _ hI.out (Below.refl _ _) (fun s hs => by cases hs; rfl)
set_option maxHeartbeats 400000 in
theorem ps_25 (t : Nat) (x : Mc) (m : Mh) (B : Nat) (w : World) (Q : Exit → Act → World → Prop) (a0 : Act) (h1 : a0.tmps.getD 1 undef = .pointer (some ⟨B, 0, none⟩)) (hla : m.a.length ≤ 9223372036854775807) (hr8 : 0 ≤ m.r ∧ m.r < 256) (ht : t < w.heap.size) (hA : ∀ ad, x.A = some ad → 0 < m.a.length → ad.block ≠ t) (hB : ∀ ad, x.B = some ad → 0 < m.l.length → ad.block ≠ t) (ty : TypeId) (ps : String) (af : Array Edge) :
    StepOk Tryd.prog Q (tabT t (ptab B x m)) (fun w' => Sx w w' [fM B x m, fGM, fH x m]) a0 [1] { dst := some 28, op := Op.call { callee := Callee.value (Operand.func 50), args := #[Operand.tmp 25, Operand.tmp 27], argTypes := #[59, 22] }, type := ty, pos := ps, after := af, guard := none } [25, 27] := by
  intro a w' hI0 hF hD K hK0
  have hK := Lib.hid hK0
  have hI := Lib.hid hI0
  clear hK0 hI0
  have e25 : a.tmps[25]?.getD undef = fv 1 1 3 := (gd a 25).trans (hD 25 (by simp))
  have e27 : a.tmps[27]?.getD undef = .slice x.B m.l.length x.d := (gd a 27).trans (hD 27 (by simp))
  clear hF hD
  go_simp
  refine (row_u8 _ _ _ _ _ _ _).mono ?_
  rintro e w1 ⟨rfl, hb⟩
  exact hK.out _ _ (hI.out.call hb) hb (fun s hs => by cases hs; exact ⟨_, _, rfl, (hI.out.call hb).2.2.2.1.2.1, hB⟩)
set_option maxHeartbeats 400000 in
theorem ps_26 (t : Nat) (x : Mc) (m : Mh) (B : Nat) (w : World) (Q : Exit → Act → World → Prop) (a0 : Act) (h1 : a0.tmps.getD 1 undef = .pointer (some ⟨B, 0, none⟩)) (hla : m.a.length ≤ 9223372036854775807) (hr8 : 0 ≤ m.r ∧ m.r < 256) (ht : t < w.heap.size) (hA : ∀ ad, x.A = some ad → 0 < m.a.length → ad.block ≠ t) (hB : ∀ ad, x.B = some ad → 0 < m.l.length → ad.block ≠ t) (ty : TypeId) (ps : String) (af : Array Edge) :
    StepOk Tryd.prog Q (tabT t (ptab B x m)) (fun w' => Sx w w' [fM B x m, fGM, fH x m]) a0 [1] { dst := some 29, op := Op.makeFunc (Fn.func 51) #[Operand.tmp 28] #[], type := ty, pos := ps, after := af, guard := none } [28] := by
  intro a w' hI0 hF hD K hK0
  have hK := Lib.hid hK0
  have hI := Lib.hid hI0
  clear hK0 hI0
  obtain ⟨A, c, e28, hrd, hne⟩ : rowU t w' (a.tmps[28]?.getD undef) 1 1 3 m.l := by rw [gd]; exact hD 28 (by simp)
  unfold Oper.wp execOp
  simp only [List.map_toArray, List.map_cons, List.map_nil, Act.eval, Array.getD_eq_getD_getElem?, e28]
  exact hK.out _ _ hI.out (Below.refl _ _) (fun s hs => by cases hs; exact ⟨A, c, rfl, hrd, hne⟩)
set_option maxHeartbeats 400000 in
theorem ps_27 (t : Nat) (x : Mc) (m : Mh) (B : Nat) (w : World) (Q : Exit → Act → World → Prop) (a0 : Act) (h1 : a0.tmps.getD 1 undef = .pointer (some ⟨B, 0, none⟩)) (hla : m.a.length ≤ 9223372036854775807) (hr8 : 0 ≤ m.r ∧ m.r < 256) (ht : t < w.heap.size) (hA : ∀ ad, x.A = some ad → 0 < m.a.length → ad.block ≠ t) (hB : ∀ ad, x.B = some ad → 0 < m.l.length → ad.block ≠ t) (ty : TypeId) (ps : String) (af : Array Edge) :
    StepOk Tryd.prog Q (tabT t (ptab B x m)) (fun w' => Sx w w' [fM B x m, fGM, fH x m]) a0 [1] { dst := some 30, op := Op.load 59 (Operand.global 0), type := ty, pos := ps, after := af, guard := none } [] := by
  intro a w' hI0 hF hD K hK0
  have hK := Lib.hid hK0
  have hI := Lib.hid hI0
  clear hK0 hI0
  obtain ⟨b0, z0, z1, z2⟩ := hI.out.2.2.1.2.1
  clear hF hD
  go_simp
  exact hK.out _ _ hI.out (Below.refl _ _) (fun s hs => by cases hs; rfl)
set_option maxHeartbeats 400000 in
theorem ps_28 (t : Nat) (x : Mc) (m : Mh) (B : Nat) (w : World) (Q : Exit → Act → World → Prop) (a0 : Act) (h1 : a0.tmps.getD 1 undef = .pointer (some ⟨B, 0, none⟩)) (hla : m.a.length ≤ 9223372036854775807) (hr8 : 0 ≤ m.r ∧ m.r < 256) (ht : t < w.heap.size) (hA : ∀ ad, x.A = some ad → 0 < m.a.length → ad.block ≠ t) (hB : ∀ ad, x.B = some ad → 0 < m.l.length → ad.block ≠ t) (ty : TypeId) (ps : String) (af : Array Edge) :
    StepOk Tryd.prog Q (tabT t (ptab B x m)) (fun w' => Sx w w' [fM B x m, fGM, fH x m]) a0 [1] { dst := some 31, op := Op.fieldAddr 25 (Operand.tmp 1) 2, type := ty, pos := ps, after := af, guard := none } [] := by
  intro a w' hI0 hF hD K hK0
  have hK := Lib.hid hK0
  have hI := Lib.hid hI0
  clear hK0 hI0
  have e1 : a.tmps[1]?.getD undef = .pointer (some ⟨B, 0, none⟩) := (gd a 1).trans ((hF 1 (by simp)).trans h1)
  clear hF hD
  go_simp
  exact hK.out _ _ hI.out (Below.refl _ _) (fun s hs => by cases hs; rfl)
set_option maxHeartbeats 400000 in
theorem ps_29 (t : Nat) (x : Mc) (m : Mh) (B : Nat) (w : World) (Q : Exit → Act → World → Prop) (a0 : Act) (h1 : a0.tmps.getD 1 undef = .pointer (some ⟨B, 0, none⟩)) (hla : m.a.length ≤ 9223372036854775807) (hr8 : 0 ≤ m.r ∧ m.r < 256) (ht : t < w.heap.size) (hA : ∀ ad, x.A = some ad → 0 < m.a.length → ad.block ≠ t) (hB : ∀ ad, x.B = some ad → 0 < m.l.length → ad.block ≠ t) (ty : TypeId) (ps : String) (af : Array Edge) :
    StepOk Tryd.prog Q (tabT t (ptab B x m)) (fun w' => Sx w w' [fM B x m, fGM, fH x m]) a0 [1] { dst := some 32, op := Op.load 5 (Operand.tmp 31), type := ty, pos := ps, after := af, guard := none } [31] := by
  intro a w' hI0 hF hD K hK0
  have hK := Lib.hid hK0
  have hI := Lib.hid hI0
  clear hK0 hI0
  have e31 : a.tmps[31]?.getD undef = .pointer (some ⟨B, 2, none⟩) := (gd a 31).trans (hD 31 (by simp))
  obtain ⟨b0, z0, z1, z2, z3, z4, z5, z6, z7⟩ := hI.out.2.1
  clear hF hD
  go_simp
  exact hK.out _ _ hI.out (Below.refl _ _) (fun s hs => by cases hs; rfl)
set_option maxHeartbeats 400000 in
theorem ps_30 (t : Nat) (x : Mc) (m : Mh) (B : Nat) (w : World) (Q : Exit → Act → World → Prop) (a0 : Act) (h1 : a0.tmps.getD 1 undef = .pointer (some ⟨B, 0, none⟩)) (hla : m.a.length ≤ 9223372036854775807) (hr8 : 0 ≤ m.r ∧ m.r < 256) (ht : t < w.heap.size) (hA : ∀ ad, x.A = some ad → 0 < m.a.length → ad.block ≠ t) (hB : ∀ ad, x.B = some ad → 0 < m.l.length → ad.block ≠ t) (ty : TypeId) (ps : String) (af : Array Edge) :
    StepOk Tryd.prog Q (tabT t (ptab B x m)) (fun w' => Sx w w' [fM B x m, fGM, fH x m]) a0 [1] { dst := some 33, op := Op.buildSlice 22 1 #[(0, Operand.tmp 32)], type := ty, pos := ps, after := af, guard := none } [32] := by
  intro a w' hI0 hF hD K hK0
  have hK := Lib.hid hK0
  have hI := Lib.hid hI0
  clear hK0 hI0
  have e32 : a.tmps[32]?.getD undef = .int .u8 m.r := (gd a 32).trans (hD 32 (by simp))
  clear hF hD
  go_simp
  exact hK.out _ _ (hI.out.mk1 _) new1 (fun s hs => by cases hs; exact oneU_new _ _ hr8 (by have := hI.out.1.size; omega))
set_option maxHeartbeats 400000 in
theorem ps_31 (t : Nat) (x : Mc) (m : Mh) (B : Nat) (w : World) (Q : Exit → Act → World → Prop) (a0 : Act) (h1 : a0.tmps.getD 1 undef = .pointer (some ⟨B, 0, none⟩)) (hla : m.a.length ≤ 9223372036854775807) (hr8 : 0 ≤ m.r ∧ m.r < 256) (ht : t < w.heap.size) (hA : ∀ ad, x.A = some ad → 0 < m.a.length → ad.block ≠ t) (hB : ∀ ad, x.B = some ad → 0 < m.l.length → ad.block ≠ t) (ty : TypeId) (ps : String) (af : Array Edge) :
    StepOk Tryd.prog Q (tabT t (ptab B x m)) (fun w' => Sx w w' [fM B x m, fGM, fH x m]) a0 [1] { dst := some 34, op := Op.call { callee := Callee.value (Operand.func 50), args := #[Operand.tmp 30, Operand.tmp 33], argTypes := #[59, 22] }, type := ty, pos := ps, after := af, guard := none } [30, 33] := by
  intro a w' hI0 hF hD K hK0
  have hK := Lib.hid hK0
  have hI := Lib.hid hI0
  clear hK0 hI0
  have e30 : a.tmps[30]?.getD undef = fv 1 1 2 := (gd a 30).trans (hD 30 (by simp))
  obtain ⟨g, e33, hrd, hne⟩ : oneU t w' (a.tmps[33]?.getD undef) m.r := by rw [gd]; exact hD 33 (by simp)
  clear hF hD
  go_simp
  refine (row_u8 _ _ _ _ _ _ _).mono ?_
  rintro e w1 ⟨rfl, hb⟩
  exact hK.out _ _ (hI.out.call hb) hb (fun s hs => by cases hs; exact ⟨_, _, rfl, hrd.keep hb, fun ad h0 _ => by cases h0; exact hne⟩)
set_option maxHeartbeats 400000 in
theorem ps_32 (t : Nat) (x : Mc) (m : Mh) (B : Nat) (w : World) (Q : Exit → Act → World → Prop) (a0 : Act) (h1 : a0.tmps.getD 1 undef = .pointer (some ⟨B, 0, none⟩)) (hla : m.a.length ≤ 9223372036854775807) (hr8 : 0 ≤ m.r ∧ m.r < 256) (ht : t < w.heap.size) (hA : ∀ ad, x.A = some ad → 0 < m.a.length → ad.block ≠ t) (hB : ∀ ad, x.B = some ad → 0 < m.l.length → ad.block ≠ t) (ty : TypeId) (ps : String) (af : Array Edge) :
    StepOk Tryd.prog Q (tabT t (ptab B x m)) (fun w' => Sx w w' [fM B x m, fGM, fH x m]) a0 [1] { dst := some 35, op := Op.makeFunc (Fn.func 51) #[Operand.tmp 34] #[], type := ty, pos := ps, after := af, guard := none } [34] := by
  intro a w' hI0 hF hD K hK0
  have hK := Lib.hid hK0
  have hI := Lib.hid hI0
  clear hK0 hI0
  obtain ⟨A, c, e34, hrd, hne⟩ : rowU t w' (a.tmps[34]?.getD undef) 1 1 2 [m.r] := by rw [gd]; exact hD 34 (by simp)
  unfold Oper.wp execOp
  simp only [List.map_toArray, List.map_cons, List.map_nil, Act.eval, Array.getD_eq_getD_getElem?, e34]
  exact hK.out _ _ hI.out (Below.refl _ _) (fun s hs => by cases hs; exact ⟨A, c, rfl, hrd, hne⟩)
set_option maxHeartbeats 400000 in
theorem ps_33 (t : Nat) (x : Mc) (m : Mh) (B : Nat) (w : World) (Q : Exit → Act → World → Prop) (a0 : Act) (h1 : a0.tmps.getD 1 undef = .pointer (some ⟨B, 0, none⟩)) (hla : m.a.length ≤ 9223372036854775807) (hr8 : 0 ≤ m.r ∧ m.r < 256) (ht : t < w.heap.size) (hA : ∀ ad, x.A = some ad → 0 < m.a.length → ad.block ≠ t) (hB : ∀ ad, x.B = some ad → 0 < m.l.length → ad.block ≠ t) (ty : TypeId) (ps : String) (af : Array Edge) :
    StepOk Tryd.prog Q (tabT t (ptab B x m)) (fun w' => Sx w w' [fM B x m, fGM, fH x m]) a0 [1] { dst := some 36, op := Op.load 59 (Operand.global 1), type := ty, pos := ps, after := af, guard := none } [] := by
  intro a w' hI0 hF hD K hK0
  have hK := Lib.hid hK0
  have hI := Lib.hid hI0
  clear hK0 hI0
  obtain ⟨b0, z0, z1, z2⟩ := hI.out.2.2.1.2.2.1
  clear hF hD
  go_simp
  exact hK.out _ _ hI.out (Below.refl _ _) (fun s hs => by cases hs; rfl)
set_option maxHeartbeats 400000 in
theorem ps_34 (t : Nat) (x : Mc) (m : Mh) (B : Nat) (w : World) (Q : Exit → Act → World → Prop) (a0 : Act) (h1 : a0.tmps.getD 1 undef = .pointer (some ⟨B, 0, none⟩)) (hla : m.a.length ≤ 9223372036854775807) (hr8 : 0 ≤ m.r ∧ m.r < 256) (ht : t < w.heap.size) (hA : ∀ ad, x.A = some ad → 0 < m.a.length → ad.block ≠ t) (hB : ∀ ad, x.B = some ad → 0 < m.l.length → ad.block ≠ t) (ty : TypeId) (ps : String) (af : Array Edge) :
    StepOk Tryd.prog Q (tabT t (ptab B x m)) (fun w' => Sx w w' [fM B x m, fGM, fH x m]) a0 [1] { dst := some 37, op := Op.fieldAddr 25 (Operand.tmp 1) 3, type := ty, pos := ps, after := af, guard := none } [] := by
  intro a w' hI0 hF hD K hK0
  have hK := Lib.hid hK0
  have hI := Lib.hid hI0
  clear hK0 hI0
  have e1 : a.tmps[1]?.getD undef = .pointer (some ⟨B, 0, none⟩) := (gd a 1).trans ((hF 1 (by simp)).trans h1)
  clear hF hD
  go_simp
  exact hK.out _ _ hI.out (Below.refl _ _) (fun s hs => by cases hs; rfl)
set_option maxHeartbeats 400000 in
theorem ps_35 (t : Nat) (x : Mc) (m : Mh) (B : Nat) (w : World) (Q : Exit → Act → World → Prop) (a0 : Act) (h1 : a0.tmps.getD 1 undef = .pointer (some ⟨B, 0, none⟩)) (hla : m.a.length ≤ 9223372036854775807) (hr8 : 0 ≤ m.r ∧ m.r < 256) (ht : t < w.heap.size) (hA : ∀ ad, x.A = some ad → 0 < m.a.length → ad.block ≠ t) (hB : ∀ ad, x.B = some ad → 0 < m.l.length → ad.block ≠ t) (ty : TypeId) (ps : String) (af : Array Edge) :
    StepOk Tryd.prog Q (tabT t (ptab B x m)) (fun w' => Sx w w' [fM B x m, fGM, fH x m]) a0 [1] { dst := some 38, op := Op.load 4 (Operand.tmp 37), type := ty, pos := ps, after := af, guard := none } [37] := by
  intro a w' hI0 hF hD K hK0
  have hK := Lib.hid hK0
  have hI := Lib.hid hI0
  clear hK0 hI0
  have e37 : a.tmps[37]?.getD undef = .pointer (some ⟨B, 3, none⟩) := (gd a 37).trans (hD 37 (by simp))
  obtain ⟨b0, z0, z1, z2, z3, z4, z5, z6, z7⟩ := hI.out.2.1
  clear hF hD
  go_simp
  exact hK.out _ _ hI.out (Below.refl _ _) (fun s hs => by cases hs; rfl)
set_option maxHeartbeats 400000 in
theorem ps_36 (t : Nat) (x : Mc) (m : Mh) (B : Nat) (w : World) (Q : Exit → Act → World → Prop) (a0 : Act) (h1 : a0.tmps.getD 1 undef = .pointer (some ⟨B, 0, none⟩)) (hla : m.a.length ≤ 9223372036854775807) (hr8 : 0 ≤ m.r ∧ m.r < 256) (ht : t < w.heap.size) (hA : ∀ ad, x.A = some ad → 0 < m.a.length → ad.block ≠ t) (hB : ∀ ad, x.B = some ad → 0 < m.l.length → ad.block ≠ t) (ty : TypeId) (ps : String) (af : Array Edge) :
    StepOk Tryd.prog Q (tabT t (ptab B x m)) (fun w' => Sx w w' [fM B x m, fGM, fH x m]) a0 [1] { dst := some 39, op := Op.call { callee := Callee.value (Operand.func 45), args := #[Operand.tmp 38], argTypes := #[4] }, type := ty, pos := ps, after := af, guard := none } [38] := by
  intro a w' hI0 hF hD K hK0
  have hK := Lib.hid hK0
  have hI := Lib.hid hI0
  clear hK0 hI0
  have e38 : a.tmps[38]?.getD undef = .bool m.q := (gd a 38).trans (hD 38 (by simp))
  clear hF hD
  go_simp
  refine (flag_v _ _).mono ?_
  rintro e w1 ⟨rfl, rfl⟩
  exact hK.out _ _ hI.out (Below.refl _ _) (fun s hs => by cases hs; rfl)
set_option maxHeartbeats 400000 in
theorem ps_37 (t : Nat) (x : Mc) (m : Mh) (B : Nat) (w : World) (Q : Exit → Act → World → Prop) (a0 : Act) (h1 : a0.tmps.getD 1 undef = .pointer (some ⟨B, 0, none⟩)) (hla : m.a.length ≤ 9223372036854775807) (hr8 : 0 ≤ m.r ∧ m.r < 256) (ht : t < w.heap.size) (hA : ∀ ad, x.A = some ad → 0 < m.a.length → ad.block ≠ t) (hB : ∀ ad, x.B = some ad → 0 < m.l.length → ad.block ≠ t) (ty : TypeId) (ps : String) (af : Array Edge) :
    StepOk Tryd.prog Q (tabT t (ptab B x m)) (fun w' => Sx w w' [fM B x m, fGM, fH x m]) a0 [1] { dst := some 40, op := Op.buildSlice 76 1 #[(0, Operand.tmp 39)], type := ty, pos := ps, after := af, guard := none } [39] := by
  intro a w' hI0 hF hD K hK0
  have hK := Lib.hid hK0
  have hI := Lib.hid hI0
  clear hK0 hI0
  have e39 : a.tmps[39]?.getD undef = .int .i64 (fl m.q) := (gd a 39).trans (hD 39 (by simp))
  clear hF hD
  go_simp
  exact hK.out _ _ (hI.out.mk1 _) new1 (fun s hs => by cases hs; exact oneI_new _ _ _ (by have := hI.out.1.size; omega))
set_option maxHeartbeats 400000 in
theorem ps_38 (t : Nat) (x : Mc) (m : Mh) (B : Nat) (w : World) (Q : Exit → Act → World → Prop) (a0 : Act) (h1 : a0.tmps.getD 1 undef = .pointer (some ⟨B, 0, none⟩)) (hla : m.a.length ≤ 9223372036854775807) (hr8 : 0 ≤ m.r ∧ m.r < 256) (ht : t < w.heap.size) (hA : ∀ ad, x.A = some ad → 0 < m.a.length → ad.block ≠ t) (hB : ∀ ad, x.B = some ad → 0 < m.l.length → ad.block ≠ t) (ty : TypeId) (ps : String) (af : Array Edge) :
    StepOk Tryd.prog Q (tabT t (ptab B x m)) (fun w' => Sx w w' [fM B x m, fGM, fH x m]) a0 [1] { dst := some 41, op := Op.call { callee := Callee.value (Operand.func 48), args := #[Operand.tmp 36, Operand.tmp 40], argTypes := #[59, 76] }, type := ty, pos := ps, after := af, guard := none } [36, 40] := by
  intro a w' hI0 hF hD K hK0
  have hK := Lib.hid hK0
  have hI := Lib.hid hI0
  clear hK0 hI0
  have e36 : a.tmps[36]?.getD undef = fv 1 0 1 := (gd a 36).trans (hD 36 (by simp))
  obtain ⟨g, e40, hg, hc, hne⟩ : oneI t w' (a.tmps[40]?.getD undef) (fl m.q) := by rw [gd]; exact hD 40 (by simp)
  clear hF hD
  go_simp
  refine (row_int _ _ _ _ _ _ _).mono ?_
  rintro e w1 ⟨rfl, hb⟩
  exact hK.out _ _ (hI.out.call hb) hb (fun s hs => by cases hs; exact ⟨g, rfl, Nat.lt_of_lt_of_le hg hb.size, (hb.cell hg).trans hc, hne⟩)
set_option maxHeartbeats 400000 in
theorem ps_39 (t : Nat) (x : Mc) (m : Mh) (B : Nat) (w : World) (Q : Exit → Act → World → Prop) (a0 : Act) (h1 : a0.tmps.getD 1 undef = .pointer (some ⟨B, 0, none⟩)) (hla : m.a.length ≤ 9223372036854775807) (hr8 : 0 ≤ m.r ∧ m.r < 256) (ht : t < w.heap.size) (hA : ∀ ad, x.A = some ad → 0 < m.a.length → ad.block ≠ t) (hB : ∀ ad, x.B = some ad → 0 < m.l.length → ad.block ≠ t) (ty : TypeId) (ps : String) (af : Array Edge) :
    StepOk Tryd.prog Q (tabT t (ptab B x m)) (fun w' => Sx w w' [fM B x m, fGM, fH x m]) a0 [1] { dst := some 42, op := Op.makeFunc (Fn.func 49) #[Operand.tmp 41] #[], type := ty, pos := ps, after := af, guard := none } [41] := by
  intro a w' hI0 hF hD K hK0
  have hK := Lib.hid hK0
  have hI := Lib.hid hI0
  clear hK0 hI0
  obtain ⟨g, e41, hg, hc, hne⟩ : rowI t w' (a.tmps[41]?.getD undef) 1 0 1 (fl m.q) := by rw [gd]; exact hD 41 (by simp)
  unfold Oper.wp execOp
  simp only [List.map_toArray, List.map_cons, List.map_nil, Act.eval, Array.getD_eq_getD_getElem?, e41]
  exact hK.out _ _ hI.out (Below.refl _ _) (fun s hs => by cases hs; exact ⟨g, rfl, hg, hc, hne⟩)
set_option maxHeartbeats 400000 in
theorem ps_40 (t : Nat) (x : Mc) (m : Mh) (B : Nat) (w : World) (Q : Exit → Act → World → Prop) (a0 : Act) (h1 : a0.tmps.getD 1 undef = .pointer (some ⟨B, 0, none⟩)) (hla : m.a.length ≤ 9223372036854775807) (hr8 : 0 ≤ m.r ∧ m.r < 256) (ht : t < w.heap.size) (hA : ∀ ad, x.A = some ad → 0 < m.a.length → ad.block ≠ t) (hB : ∀ ad, x.B = some ad → 0 < m.l.length → ad.block ≠ t) (ty : TypeId) (ps : String) (af : Array Edge) :
    StepOk Tryd.prog Q (tabT t (ptab B x m)) (fun w' => Sx w w' [fM B x m, fGM, fH x m]) a0 [1] { dst := some 43, op := Op.load 59 (Operand.global 2), type := ty, pos := ps, after := af, guard := none } [] := by
  intro a w' hI0 hF hD K hK0
  have hK := Lib.hid hK0
  have hI := Lib.hid hI0
  clear hK0 hI0
  obtain ⟨b0, z0, z1, z2⟩ := hI.out.2.2.1.2.2.2.1
  clear hF hD
  go_simp
  exact hK.out _ _ hI.out (Below.refl _ _) (fun s hs => by cases hs; rfl)
set_option maxHeartbeats 400000 in
theorem ps_41 (t : Nat) (x : Mc) (m : Mh) (B : Nat) (w : World) (Q : Exit → Act → World → Prop) (a0 : Act) (h1 : a0.tmps.getD 1 undef = .pointer (some ⟨B, 0, none⟩)) (hla : m.a.length ≤ 9223372036854775807) (hr8 : 0 ≤ m.r ∧ m.r < 256) (ht : t < w.heap.size) (hA : ∀ ad, x.A = some ad → 0 < m.a.length → ad.block ≠ t) (hB : ∀ ad, x.B = some ad → 0 < m.l.length → ad.block ≠ t) (ty : TypeId) (ps : String) (af : Array Edge) :
    StepOk Tryd.prog Q (tabT t (ptab B x m)) (fun w' => Sx w w' [fM B x m, fGM, fH x m]) a0 [1] { dst := some 44, op := Op.fieldAddr 25 (Operand.tmp 1) 4, type := ty, pos := ps, after := af, guard := none } [] := by
  intro a w' hI0 hF hD K hK0
  have hK := Lib.hid hK0
  have hI := Lib.hid hI0
  clear hK0 hI0
  have e1 : a.tmps[1]?.getD undef = .pointer (some ⟨B, 0, none⟩) := (gd a 1).trans ((hF 1 (by simp)).trans h1)
  clear hF hD
  go_simp
  exact hK.out _ _ hI.out (Below.refl _ _) (fun s hs => by cases hs; rfl)
set_option maxHeartbeats 400000 in
theorem ps_42 (t : Nat) (x : Mc) (m : Mh) (B : Nat) (w : World) (Q : Exit → Act → World → Prop) (a0 : Act) (h1 : a0.tmps.getD 1 undef = .pointer (some ⟨B, 0, none⟩)) (hla : m.a.length ≤ 9223372036854775807) (hr8 : 0 ≤ m.r ∧ m.r < 256) (ht : t < w.heap.size) (hA : ∀ ad, x.A = some ad → 0 < m.a.length → ad.block ≠ t) (hB : ∀ ad, x.B = some ad → 0 < m.l.length → ad.block ≠ t) (ty : TypeId) (ps : String) (af : Array Edge) :
    StepOk Tryd.prog Q (tabT t (ptab B x m)) (fun w' => Sx w w' [fM B x m, fGM, fH x m]) a0 [1] { dst := some 45, op := Op.load 3 (Operand.tmp 44), type := ty, pos := ps, after := af, guard := none } [44] := by
  intro a w' hI0 hF hD K hK0
  have hK := Lib.hid hK0
  have hI := Lib.hid hI0
  clear hK0 hI0
  have e44 : a.tmps[44]?.getD undef = .pointer (some ⟨B, 4, none⟩) := (gd a 44).trans (hD 44 (by simp))
  obtain ⟨b0, z0, z1, z2, z3, z4, z5, z6, z7⟩ := hI.out.2.1
  clear hF hD
  go_simp
  exact hK.out _ _ hI.out (Below.refl _ _) (fun s hs => by cases hs; rfl)
set_option maxHeartbeats 400000 in
theorem ps_43 (t : Nat) (x : Mc) (m : Mh) (B : Nat) (w : World) (Q : Exit → Act → World → Prop) (a0 : Act) (h1 : a0.tmps.getD 1 undef = .pointer (some ⟨B, 0, none⟩)) (hla : m.a.length ≤ 9223372036854775807) (hr8 : 0 ≤ m.r ∧ m.r < 256) (ht : t < w.heap.size) (hA : ∀ ad, x.A = some ad → 0 < m.a.length → ad.block ≠ t) (hB : ∀ ad, x.B = some ad → 0 < m.l.length → ad.block ≠ t) (ty : TypeId) (ps : String) (af : Array Edge) :
    StepOk Tryd.prog Q (tabT t (ptab B x m)) (fun w' => Sx w w' [fM B x m, fGM, fH x m]) a0 [1] { dst := some 46, op := Op.buildSlice 76 1 #[(0, Operand.tmp 45)], type := ty, pos := ps, after := af, guard := none } [45] := by
  intro a w' hI0 hF hD K hK0
  have hK := Lib.hid hK0
  have hI := Lib.hid hI0
  clear hK0 hI0
  have e45 : a.tmps[45]?.getD undef = .int .i64 m.f := (gd a 45).trans (hD 45 (by simp))
  clear hF hD
  go_simp
  exact hK.out _ _ (hI.out.mk1 _) new1 (fun s hs => by cases hs; exact oneI_new _ _ _ (by have := hI.out.1.size; omega))
set_option maxHeartbeats 400000 in
theorem ps_44 (t : Nat) (x : Mc) (m : Mh) (B : Nat) (w : World) (Q : Exit → Act → World → Prop) (a0 : Act) (h1 : a0.tmps.getD 1 undef = .pointer (some ⟨B, 0, none⟩)) (hla : m.a.length ≤ 9223372036854775807) (hr8 : 0 ≤ m.r ∧ m.r < 256) (ht : t < w.heap.size) (hA : ∀ ad, x.A = some ad → 0 < m.a.length → ad.block ≠ t) (hB : ∀ ad, x.B = some ad → 0 < m.l.length → ad.block ≠ t) (ty : TypeId) (ps : String) (af : Array Edge) :
    StepOk Tryd.prog Q (tabT t (ptab B x m)) (fun w' => Sx w w' [fM B x m, fGM, fH x m]) a0 [1] { dst := some 47, op := Op.call { callee := Callee.value (Operand.func 48), args := #[Operand.tmp 43, Operand.tmp 46], argTypes := #[59, 76] }, type := ty, pos := ps, after := af, guard := none } [43, 46] := by
  intro a w' hI0 hF hD K hK0
  have hK := Lib.hid hK0
  have hI := Lib.hid hI0
  clear hK0 hI0
  have e43 : a.tmps[43]?.getD undef = fv 3 0 1048576 := (gd a 43).trans (hD 43 (by simp))
  obtain ⟨g, e46, hg, hc, hne⟩ : oneI t w' (a.tmps[46]?.getD undef) m.f := by rw [gd]; exact hD 46 (by simp)
  clear hF hD
  go_simp
  refine (row_int _ _ _ _ _ _ _).mono ?_
  rintro e w1 ⟨rfl, hb⟩
  exact hK.out _ _ (hI.out.call hb) hb (fun s hs => by cases hs; exact ⟨g, rfl, Nat.lt_of_lt_of_le hg hb.size, (hb.cell hg).trans hc, hne⟩)
set_option maxHeartbeats 400000 in
theorem ps_45 (t : Nat) (x : Mc) (m : Mh) (B : Nat) (w : World) (Q : Exit → Act → World → Prop) (a0 : Act) (h1 : a0.tmps.getD 1 undef = .pointer (some ⟨B, 0, none⟩)) (hla : m.a.length ≤ 9223372036854775807) (hr8 : 0 ≤ m.r ∧ m.r < 256) (ht : t < w.heap.size) (hA : ∀ ad, x.A = some ad → 0 < m.a.length → ad.block ≠ t) (hB : ∀ ad, x.B = some ad → 0 < m.l.length → ad.block ≠ t) (ty : TypeId) (ps : String) (af : Array Edge) :
    StepOk Tryd.prog Q (tabT t (ptab B x m)) (fun w' => Sx w w' [fM B x m, fGM, fH x m]) a0 [1] { dst := some 48, op := Op.makeFunc (Fn.func 49) #[Operand.tmp 47] #[], type := ty, pos := ps, after := af, guard := none } [47] := by
  intro a w' hI0 hF hD K hK0
  have hK := Lib.hid hK0
  have hI := Lib.hid hI0
  clear hK0 hI0
  obtain ⟨g, e47, hg, hc, hne⟩ : rowI t w' (a.tmps[47]?.getD undef) 3 0 1048576 m.f := by rw [gd]; exact hD 47 (by simp)
  unfold Oper.wp execOp
  simp only [List.map_toArray, List.map_cons, List.map_nil, Act.eval, Array.getD_eq_getD_getElem?, e47]
  exact hK.out _ _ hI.out (Below.refl _ _) (fun s hs => by cases hs; exact ⟨g, rfl, hg, hc, hne⟩)
set_option maxHeartbeats 400000 in
theorem ps_46 (t : Nat) (x : Mc) (m : Mh) (B : Nat) (w : World) (Q : Exit → Act → World → Prop) (a0 : Act) (h1 : a0.tmps.getD 1 undef = .pointer (some ⟨B, 0, none⟩)) (hla : m.a.length ≤ 9223372036854775807) (hr8 : 0 ≤ m.r ∧ m.r < 256) (ht : t < w.heap.size) (hA : ∀ ad, x.A = some ad → 0 < m.a.length → ad.block ≠ t) (hB : ∀ ad, x.B = some ad → 0 < m.l.length → ad.block ≠ t) (ty : TypeId) (ps : String) (af : Array Edge) :
    StepOk Tryd.prog Q (tabT t (ptab B x m)) (fun w' => Sx w w' [fM B x m, fGM, fH x m]) a0 [1] { dst := some 49, op := Op.load 59 (Operand.global 3), type := ty, pos := ps, after := af, guard := none } [] := by
  intro a w' hI0 hF hD K hK0
  have hK := Lib.hid hK0
  have hI := Lib.hid hI0
  clear hK0 hI0
  obtain ⟨b0, z0, z1, z2⟩ := hI.out.2.2.1.2.2.2.2.1
  clear hF hD
  go_simp
  exact hK.out _ _ hI.out (Below.refl _ _) (fun s hs => by cases hs; rfl)
set_option maxHeartbeats 400000 in
theorem ps_47 (t : Nat) (x : Mc) (m : Mh) (B : Nat) (w : World) (Q : Exit → Act → World → Prop) (a0 : Act) (h1 : a0.tmps.getD 1 undef = .pointer (some ⟨B, 0, none⟩)) (hla : m.a.length ≤ 9223372036854775807) (hr8 : 0 ≤ m.r ∧ m.r < 256) (ht : t < w.heap.size) (hA : ∀ ad, x.A = some ad → 0 < m.a.length → ad.block ≠ t) (hB : ∀ ad, x.B = some ad → 0 < m.l.length → ad.block ≠ t) (ty : TypeId) (ps : String) (af : Array Edge) :
    StepOk Tryd.prog Q (tabT t (ptab B x m)) (fun w' => Sx w w' [fM B x m, fGM, fH x m]) a0 [1] { dst := some 50, op := Op.fieldAddr 25 (Operand.tmp 1) 5, type := ty, pos := ps, after := af, guard := none } [] := by
  intro a w' hI0 hF hD K hK0
  have hK := Lib.hid hK0
  have hI := Lib.hid hI0
  clear hK0 hI0
  have e1 : a.tmps[1]?.getD undef = .pointer (some ⟨B, 0, none⟩) := (gd a 1).trans ((hF 1 (by simp)).trans h1)
  clear hF hD
  go_simp
  exact hK.out _ _ hI.out (Below.refl _ _) (fun s hs => by cases hs; rfl)
set_option maxHeartbeats 400000 in
theorem ps_48 (t : Nat) (x : Mc) (m : Mh) (B : Nat) (w : World) (Q : Exit → Act → World → Prop) (a0 : Act) (h1 : a0.tmps.getD 1 undef = .pointer (some ⟨B, 0, none⟩)) (hla : m.a.length ≤ 9223372036854775807) (hr8 : 0 ≤ m.r ∧ m.r < 256) (ht : t < w.heap.size) (hA : ∀ ad, x.A = some ad → 0 < m.a.length → ad.block ≠ t) (hB : ∀ ad, x.B = some ad → 0 < m.l.length → ad.block ≠ t) (ty : TypeId) (ps : String) (af : Array Edge) :
    StepOk Tryd.prog Q (tabT t (ptab B x m)) (fun w' => Sx w w' [fM B x m, fGM, fH x m]) a0 [1] { dst := some 51, op := Op.load 3 (Operand.tmp 50), type := ty, pos := ps, after := af, guard := none } [50] := by
  intro a w' hI0 hF hD K hK0
  have hK := Lib.hid hK0
  have hI := Lib.hid hI0
  clear hK0 hI0
  have e50 : a.tmps[50]?.getD undef = .pointer (some ⟨B, 5, none⟩) := (gd a 50).trans (hD 50 (by simp))
  obtain ⟨b0, z0, z1, z2, z3, z4, z5, z6, z7⟩ := hI.out.2.1
  clear hF hD
  go_simp
  exact hK.out _ _ hI.out (Below.refl _ _) (fun s hs => by cases hs; rfl)
set_option maxHeartbeats 400000 in
theorem ps_49 (t : Nat) (x : Mc) (m : Mh) (B : Nat) (w : World) (Q : Exit → Act → World → Prop) (a0 : Act) (h1 : a0.tmps.getD 1 undef = .pointer (some ⟨B, 0, none⟩)) (hla : m.a.length ≤ 9223372036854775807) (hr8 : 0 ≤ m.r ∧ m.r < 256) (ht : t < w.heap.size) (hA : ∀ ad, x.A = some ad → 0 < m.a.length → ad.block ≠ t) (hB : ∀ ad, x.B = some ad → 0 < m.l.length → ad.block ≠ t) (ty : TypeId) (ps : String) (af : Array Edge) :
    StepOk Tryd.prog Q (tabT t (ptab B x m)) (fun w' => Sx w w' [fM B x m, fGM, fH x m]) a0 [1] { dst := some 52, op := Op.buildSlice 76 1 #[(0, Operand.tmp 51)], type := ty, pos := ps, after := af, guard := none } [51] := by
  intro a w' hI0 hF hD K hK0
  have hK := Lib.hid hK0
  have hI := Lib.hid hI0
  clear hK0 hI0
  have e51 : a.tmps[51]?.getD undef = .int .i64 m.s := (gd a 51).trans (hD 51 (by simp))
  clear hF hD
  go_simp
  exact hK.out _ _ (hI.out.mk1 _) new1 (fun s hs => by cases hs; exact oneI_new _ _ _ (by have := hI.out.1.size; omega))
set_option maxHeartbeats 400000 in
theorem ps_50 (t : Nat) (x : Mc) (m : Mh) (B : Nat) (w : World) (Q : Exit → Act → World → Prop) (a0 : Act) (h1 : a0.tmps.getD 1 undef = .pointer (some ⟨B, 0, none⟩)) (hla : m.a.length ≤ 9223372036854775807) (hr8 : 0 ≤ m.r ∧ m.r < 256) (ht : t < w.heap.size) (hA : ∀ ad, x.A = some ad → 0 < m.a.length → ad.block ≠ t) (hB : ∀ ad, x.B = some ad → 0 < m.l.length → ad.block ≠ t) (ty : TypeId) (ps : String) (af : Array Edge) :
    StepOk Tryd.prog Q (tabT t (ptab B x m)) (fun w' => Sx w w' [fM B x m, fGM, fH x m]) a0 [1] { dst := some 53, op := Op.call { callee := Callee.value (Operand.func 48), args := #[Operand.tmp 49, Operand.tmp 52], argTypes := #[59, 76] }, type := ty, pos := ps, after := af, guard := none } [49, 52] := by
  intro a w' hI0 hF hD K hK0
  have hK := Lib.hid hK0
  have hI := Lib.hid hI0
  clear hK0 hI0
  have e49 : a.tmps[49]?.getD undef = fv 2 0 256 := (gd a 49).trans (hD 49 (by simp))
  obtain ⟨g, e52, hg, hc, hne⟩ : oneI t w' (a.tmps[52]?.getD undef) m.s := by rw [gd]; exact hD 52 (by simp)
  clear hF hD
  go_simp
  refine (row_int _ _ _ _ _ _ _).mono ?_
  rintro e w1 ⟨rfl, hb⟩
  exact hK.out _ _ (hI.out.call hb) hb (fun s hs => by cases hs; exact ⟨g, rfl, Nat.lt_of_lt_of_le hg hb.size, (hb.cell hg).trans hc, hne⟩)
set_option maxHeartbeats 400000 in
theorem ps_51 (t : Nat) (x : Mc) (m : Mh) (B : Nat) (w : World) (Q : Exit → Act → World → Prop) (a0 : Act) (h1 : a0.tmps.getD 1 undef = .pointer (some ⟨B, 0, none⟩)) (hla : m.a.length ≤ 9223372036854775807) (hr8 : 0 ≤ m.r ∧ m.r < 256) (ht : t < w.heap.size) (hA : ∀ ad, x.A = some ad → 0 < m.a.length → ad.block ≠ t) (hB : ∀ ad, x.B = some ad → 0 < m.l.length → ad.block ≠ t) (ty : TypeId) (ps : String) (af : Array Edge) :
    StepOk Tryd.prog Q (tabT t (ptab B x m)) (fun w' => Sx w w' [fM B x m, fGM, fH x m]) a0 [1] { dst := some 54, op := Op.makeFunc (Fn.func 49) #[Operand.tmp 53] #[], type := ty, pos := ps, after := af, guard := none } [53] := by
  intro a w' hI0 hF hD K hK0
  have hK := Lib.hid hK0
  have hI := Lib.hid hI0
  clear hK0 hI0
  obtain ⟨g, e53, hg, hc, hne⟩ : rowI t w' (a.tmps[53]?.getD undef) 2 0 256 m.s := by rw [gd]; exact hD 53 (by simp)
  unfold Oper.wp execOp
  simp only [List.map_toArray, List.map_cons, List.map_nil, Act.eval, Array.getD_eq_getD_getElem?, e53]
  exact hK.out _ _ hI.out (Below.refl _ _) (fun s hs => by cases hs; exact ⟨g, rfl, hg, hc, hne⟩)
set_option maxHeartbeats 400000 in
theorem ps_52 (t : Nat) (x : Mc) (m : Mh) (B : Nat) (w : World) (Q : Exit → Act → World → Prop) (a0 : Act) (h1 : a0.tmps.getD 1 undef = .pointer (some ⟨B, 0, none⟩)) (hla : m.a.length ≤ 9223372036854775807) (hr8 : 0 ≤ m.r ∧ m.r < 256) (ht : t < w.heap.size) (hA : ∀ ad, x.A = some ad → 0 < m.a.length → ad.block ≠ t) (hB : ∀ ad, x.B = some ad → 0 < m.l.length → ad.block ≠ t) (ty : TypeId) (ps : String) (af : Array Edge) :
    StepOk Tryd.prog Q (tabT t (ptab B x m)) (fun w' => Sx w w' [fM B x m, fGM, fH x m]) a0 [1] { dst := some 55, op := Op.load 59 (Operand.global 4), type := ty, pos := ps, after := af, guard := none } [] := by
  intro a w' hI0 hF hD K hK0
  have hK := Lib.hid hK0
  have hI := Lib.hid hI0
  clear hK0 hI0
  obtain ⟨b0, z0, z1, z2⟩ := hI.out.2.2.1.2.2.2.2.2
  clear hF hD
  go_simp
  exact hK.out _ _ hI.out (Below.refl _ _) (fun s hs => by cases hs; rfl)
set_option maxHeartbeats 400000 in
theorem ps_53 (t : Nat) (x : Mc) (m : Mh) (B : Nat) (w : World) (Q : Exit → Act → World → Prop) (a0 : Act) (h1 : a0.tmps.getD 1 undef = .pointer (some ⟨B, 0, none⟩)) (hla : m.a.length ≤ 9223372036854775807) (hr8 : 0 ≤ m.r ∧ m.r < 256) (ht : t < w.heap.size) (hA : ∀ ad, x.A = some ad → 0 < m.a.length → ad.block ≠ t) (hB : ∀ ad, x.B = some ad → 0 < m.l.length → ad.block ≠ t) (ty : TypeId) (ps : String) (af : Array Edge) :
    StepOk Tryd.prog Q (tabT t (ptab B x m)) (fun w' => Sx w w' [fM B x m, fGM, fH x m]) a0 [1] { dst := some 56, op := Op.fieldAddr 25 (Operand.tmp 1) 6, type := ty, pos := ps, after := af, guard := none } [] := by
  intro a w' hI0 hF hD K hK0
  have hK := Lib.hid hK0
  have hI := Lib.hid hI0
  clear hK0 hI0
  have e1 : a.tmps[1]?.getD undef = .pointer (some ⟨B, 0, none⟩) := (gd a 1).trans ((hF 1 (by simp)).trans h1)
  clear hF hD
  go_simp
  exact hK.out _ _ hI.out (Below.refl _ _) (fun s hs => by cases hs; rfl)
set_option maxHeartbeats 400000 in
theorem ps_54 (t : Nat) (x : Mc) (m : Mh) (B : Nat) (w : World) (Q : Exit → Act → World → Prop) (a0 : Act) (h1 : a0.tmps.getD 1 undef = .pointer (some ⟨B, 0, none⟩)) (hla : m.a.length ≤ 9223372036854775807) (hr8 : 0 ≤ m.r ∧ m.r < 256) (ht : t < w.heap.size) (hA : ∀ ad, x.A = some ad → 0 < m.a.length → ad.block ≠ t) (hB : ∀ ad, x.B = some ad → 0 < m.l.length → ad.block ≠ t) (ty : TypeId) (ps : String) (af : Array Edge) :
    StepOk Tryd.prog Q (tabT t (ptab B x m)) (fun w' => Sx w w' [fM B x m, fGM, fH x m]) a0 [1] { dst := some 57, op := Op.load 3 (Operand.tmp 56), type := ty, pos := ps, after := af, guard := none } [56] := by
  intro a w' hI0 hF hD K hK0
  have hK := Lib.hid hK0
  have hI := Lib.hid hI0
  clear hK0 hI0
  have e56 : a.tmps[56]?.getD undef = .pointer (some ⟨B, 6, none⟩) := (gd a 56).trans (hD 56 (by simp))
  obtain ⟨b0, z0, z1, z2, z3, z4, z5, z6, z7⟩ := hI.out.2.1
  clear hF hD
  go_simp
  exact hK.out _ _ hI.out (Below.refl _ _) (fun s hs => by cases hs; rfl)
set_option maxHeartbeats 400000 in
theorem ps_55 (t : Nat) (x : Mc) (m : Mh) (B : Nat) (w : World) (Q : Exit → Act → World → Prop) (a0 : Act) (h1 : a0.tmps.getD 1 undef = .pointer (some ⟨B, 0, none⟩)) (hla : m.a.length ≤ 9223372036854775807) (hr8 : 0 ≤ m.r ∧ m.r < 256) (ht : t < w.heap.size) (hA : ∀ ad, x.A = some ad → 0 < m.a.length → ad.block ≠ t) (hB : ∀ ad, x.B = some ad → 0 < m.l.length → ad.block ≠ t) (ty : TypeId) (ps : String) (af : Array Edge) :
    StepOk Tryd.prog Q (tabT t (ptab B x m)) (fun w' => Sx w w' [fM B x m, fGM, fH x m]) a0 [1] { dst := some 58, op := Op.buildSlice 76 1 #[(0, Operand.tmp 57)], type := ty, pos := ps, after := af, guard := none } [57] := by
  intro a w' hI0 hF hD K hK0
  have hK := Lib.hid hK0
  have hI := Lib.hid hI0
  clear hK0 hI0
  have e57 : a.tmps[57]?.getD undef = .int .i64 m.h := (gd a 57).trans (hD 57 (by simp))
  clear hF hD
  go_simp
  exact hK.out _ _ (hI.out.mk1 _) new1 (fun s hs => by cases hs; exact oneI_new _ _ _ (by have := hI.out.1.size; omega))
set_option maxHeartbeats 400000 in
theorem ps_56 (t : Nat) (x : Mc) (m : Mh) (B : Nat) (w : World) (Q : Exit → Act → World → Prop) (a0 : Act) (h1 : a0.tmps.getD 1 undef = .pointer (some ⟨B, 0, none⟩)) (hla : m.a.length ≤ 9223372036854775807) (hr8 : 0 ≤ m.r ∧ m.r < 256) (ht : t < w.heap.size) (hA : ∀ ad, x.A = some ad → 0 < m.a.length → ad.block ≠ t) (hB : ∀ ad, x.B = some ad → 0 < m.l.length → ad.block ≠ t) (ty : TypeId) (ps : String) (af : Array Edge) :
    StepOk Tryd.prog Q (tabT t (ptab B x m)) (fun w' => Sx w w' [fM B x m, fGM, fH x m]) a0 [1] { dst := some 59, op := Op.call { callee := Callee.value (Operand.func 48), args := #[Operand.tmp 55, Operand.tmp 58], argTypes := #[59, 76] }, type := ty, pos := ps, after := af, guard := none } [55, 58] := by
  intro a w' hI0 hF hD K hK0
  have hK := Lib.hid hK0
  have hI := Lib.hid hI0
  clear hK0 hI0
  have e55 : a.tmps[55]?.getD undef = fv 2 0 1024 := (gd a 55).trans (hD 55 (by simp))
  obtain ⟨g, e58, hg, hc, hne⟩ : oneI t w' (a.tmps[58]?.getD undef) m.h := by rw [gd]; exact hD 58 (by simp)
  clear hF hD
  go_simp
  refine (row_int _ _ _ _ _ _ _).mono ?_
  rintro e w1 ⟨rfl, hb⟩
  exact hK.out _ _ (hI.out.call hb) hb (fun s hs => by cases hs; exact ⟨g, rfl, Nat.lt_of_lt_of_le hg hb.size, (hb.cell hg).trans hc, hne⟩)
set_option maxHeartbeats 400000 in
theorem ps_57 (t : Nat) (x : Mc) (m : Mh) (B : Nat) (w : World) (Q : Exit → Act → World → Prop) (a0 : Act) (h1 : a0.tmps.getD 1 undef = .pointer (some ⟨B, 0, none⟩)) (hla : m.a.length ≤ 9223372036854775807) (hr8 : 0 ≤ m.r ∧ m.r < 256) (ht : t < w.heap.size) (hA : ∀ ad, x.A = some ad → 0 < m.a.length → ad.block ≠ t) (hB : ∀ ad, x.B = some ad → 0 < m.l.length → ad.block ≠ t) (ty : TypeId) (ps : String) (af : Array Edge) :
    StepOk Tryd.prog Q (tabT t (ptab B x m)) (fun w' => Sx w w' [fM B x m, fGM, fH x m]) a0 [1] { dst := some 60, op := Op.makeFunc (Fn.func 49) #[Operand.tmp 59] #[], type := ty, pos := ps, after := af, guard := none } [59] := by
  intro a w' hI0 hF hD K hK0
  have hK := Lib.hid hK0
  have hI := Lib.hid hI0
  clear hK0 hI0
  obtain ⟨g, e59, hg, hc, hne⟩ : rowI t w' (a.tmps[59]?.getD undef) 2 0 1024 m.h := by rw [gd]; exact hD 59 (by simp)
  unfold Oper.wp execOp
  simp only [List.map_toArray, List.map_cons, List.map_nil, Act.eval, Array.getD_eq_getD_getElem?, e59]
  exact hK.out _ _ hI.out (Below.refl _ _) (fun s hs => by cases hs; exact ⟨g, rfl, hg, hc, hne⟩)
set_option maxHeartbeats 400000 in
theorem ps_58 (t : Nat) (x : Mc) (m : Mh) (B : Nat) (w : World) (Q : Exit → Act → World → Prop) (a0 : Act) (h1 : a0.tmps.getD 1 undef = .pointer (some ⟨B, 0, none⟩)) (hla : m.a.length ≤ 9223372036854775807) (hr8 : 0 ≤ m.r ∧ m.r < 256) (ht : t < w.heap.size) (hA : ∀ ad, x.A = some ad → 0 < m.a.length → ad.block ≠ t) (hB : ∀ ad, x.B = some ad → 0 < m.l.length → ad.block ≠ t) (ty : TypeId) (ps : String) (af : Array Edge) :
    StepOk Tryd.prog Q (tabT t (ptab B x m)) (fun w' => Sx w w' [fM B x m, fGM, fH x m]) a0 [1] { dst := some 61, op := Op.buildSlice 54 9 #[(0, Operand.tmp 9), (1, Operand.tmp 14), (2, Operand.tmp 24), (3, Operand.tmp 29), (4, Operand.tmp 35), (5, Operand.tmp 42), (6, Operand.tmp 48), (7, Operand.tmp 54), (8, Operand.tmp 60)], type := ty, pos := ps, after := af, guard := none } [9, 14, 24, 29, 35, 42, 48, 54, 60] := by
  intro a w' hI0 hF hD K hK0
  have hK := Lib.hid hK0
  have hI := Lib.hid hI0
  clear hK0 hI0
  have q0 : funI t w' (a.tmps[9]?.getD undef) 1 0 4 (m.a.length : Int) := by rw [gd]; exact hD 9 (by simp)
  have q1 : funU t w' (a.tmps[14]?.getD undef) 1 1 3 m.a := by rw [gd]; exact hD 14 (by simp)
  have q2 : funI t w' (a.tmps[24]?.getD undef) 1 0 (16 - m.a.length) (m.l.length : Int) := by rw [gd]; exact hD 24 (by simp)
  have q3 : funU t w' (a.tmps[29]?.getD undef) 1 1 3 m.l := by rw [gd]; exact hD 29 (by simp)
  have q4 : funU t w' (a.tmps[35]?.getD undef) 1 1 2 [m.r] := by rw [gd]; exact hD 35 (by simp)
  have q5 : funI t w' (a.tmps[42]?.getD undef) 1 0 1 (fl m.q) := by rw [gd]; exact hD 42 (by simp)
  have q6 : funI t w' (a.tmps[48]?.getD undef) 3 0 1048576 m.f := by rw [gd]; exact hD 48 (by simp)
  have q7 : funI t w' (a.tmps[54]?.getD undef) 2 0 256 m.s := by rw [gd]; exact hD 54 (by simp)
  have q8 : funI t w' (a.tmps[60]?.getD undef) 2 0 1024 m.h := by rw [gd]; exact hD 60 (by simp)
  generalize hv0 : a.tmps[9]?.getD undef = v0 at q0
  generalize hv1 : a.tmps[14]?.getD undef = v1 at q1
  generalize hv2 : a.tmps[24]?.getD undef = v2 at q2
  generalize hv3 : a.tmps[29]?.getD undef = v3 at q3
  generalize hv4 : a.tmps[35]?.getD undef = v4 at q4
  generalize hv5 : a.tmps[42]?.getD undef = v5 at q5
  generalize hv6 : a.tmps[48]?.getD undef = v6 at q6
  generalize hv7 : a.tmps[54]?.getD undef = v7 at q7
  generalize hv8 : a.tmps[60]?.getD undef = v8 at q8
  obtain ⟨r0, rfl⟩ := q0.form
  obtain ⟨r1, rfl⟩ := q1.form
  obtain ⟨r2, rfl⟩ := q2.form
  obtain ⟨r3, rfl⟩ := q3.form
  obtain ⟨r4, rfl⟩ := q4.form
  obtain ⟨r5, rfl⟩ := q5.form
  obtain ⟨r6, rfl⟩ := q6.form
  obtain ⟨r7, rfl⟩ := q7.form
  obtain ⟨r8, rfl⟩ := q8.form
  clear hF hD
  go_simp
  exact hK.out _ _ (hI.out.mk1 _) new1 (fun s hs => by cases hs; exact ⟨w'.heap.size, rfl, all9_new (by have := hI.out.1.size; omega) rfl (.inl ⟨_, rfl, q0⟩) (.inr q1) (.inl ⟨_, rfl, q2⟩) (.inr q3) (.inr q4) (.inl ⟨_, rfl, q5⟩) (.inl ⟨_, rfl, q6⟩) (.inl ⟨_, rfl, q7⟩) (.inl ⟨_, rfl, q8⟩) _⟩)
set_option maxHeartbeats 400000 in
theorem ps_59 (t : Nat) (x : Mc) (m : Mh) (B : Nat) (w : World) (Q : Exit → Act → World → Prop) (a0 : Act) (h1 : a0.tmps.getD 1 undef = .pointer (some ⟨B, 0, none⟩)) (hla : m.a.length ≤ 9223372036854775807) (hr8 : 0 ≤ m.r ∧ m.r < 256) (ht : t < w.heap.size) (hA : ∀ ad, x.A = some ad → 0 < m.a.length → ad.block ≠ t) (hB : ∀ ad, x.B = some ad → 0 < m.l.length → ad.block ≠ t) (ty : TypeId) (ps : String) (af : Array Edge) :
    StepOk Tryd.prog Q (tabT t (ptab B x m)) (fun w' => Sx w w' [fM B x m, fGM, fH x m]) a0 [1] { dst := some 2, op := Op.assign (Operand.tmp 61), type := ty, pos := ps, after := af, guard := none } [61] := by
  intro a w' hI0 hF hD K hK0
  have hK := Lib.hid hK0
  have hI := Lib.hid hI0
  clear hK0 hI0
  unfold Oper.wp execOp
  simp only []
  exact hK.out _ _ hI.out (Below.refl _ _) (fun s hs => by cases hs; exact hD 61 (by simp))
set_option maxHeartbeats 1000000 in
theorem parts_v (t : Nat) (x : Mc) (m : Mh) (w : World) (hx : Hd w x m) (hw : GM w) (ht : t < w.heap.size) (hA : ∀ ad, x.A = some ad → 0 < m.a.length → ad.block ≠ t) (hB : ∀ ad, x.B = some ad → 0 < m.l.length → ad.block ≠ t) : Calls Tryd.prog 31 #[mv x m] w fun e w' => ∃ B, e = .returned (.slice (some ⟨B, 0, none⟩) 9 9) ∧ All9 t w' B m ∧ Below w.heap.size w w' := by
  have hla := hx.la
  have hr8 := hx.2.2.1
  have S0 := Lib.hid ((((Sx.start w).add (fH x m) hx).add fGM hw).mkM x m)
  clear hx hw
  go_enter Tryd.func31, Tryd.ntmps31
  go_upto_region 1 with (fail)
  refine wp_region_typed (tabT t (ptab w.heap.size x m)) (fun w' => Sx w w' [fM w.heap.size x m, fGM, fH x m]) [[], [], [4], [5], [6], [3, 7], [8], [], [], [11], [10, 12], [13], [], [15], [16], [17], [], [19], [20], [21], [18, 22], [23], [], [], [26], [25, 27], [28], [], [], [31], [32], [30, 33], [34], [], [], [37], [38], [39], [36, 40], [41], [], [], [44], [45], [43, 46], [47], [], [], [50], [51], [49, 52], [53], [], [], [56], [57], [55, 58], [59], [9, 14, 24, 29, 35, 42, 48, 54, 60], [61]] [1] (by kernel_rfl) (by kernel_rfl) (fun s w w' v _ hb h => tabT_keep hb h) (S0.out.drewN 1) ?_ ?_
  · exact ⟨ps_0 t x m w.heap.size w _ _ rfl hla hr8 ht hA hB _ _ _, ps_1 t x m w.heap.size w _ _ rfl hla hr8 ht hA hB _ _ _, ps_2 t x m w.heap.size w _ _ rfl hla hr8 ht hA hB _ _ _, ps_3 t x m w.heap.size w _ _ rfl hla hr8 ht hA hB _ _ _, ps_4 t x m w.heap.size w _ _ rfl hla hr8 ht hA hB _ _ _, ps_5 t x m w.heap.size w _ _ rfl hla hr8 ht hA hB _ _ _, ps_6 t x m w.heap.size w _ _ rfl hla hr8 ht hA hB _ _ _, ps_7 t x m w.heap.size w _ _ rfl hla hr8 ht hA hB _ _ _, ps_8 t x m w.heap.size w _ _ rfl hla hr8 ht hA hB _ _ _, ps_9 t x m w.heap.size w _ _ rfl hla hr8 ht hA hB _ _ _, ps_10 t x m w.heap.size w _ _ rfl hla hr8 ht hA hB _ _ _, ps_11 t x m w.heap.size w _ _ rfl hla hr8 ht hA hB _ _ _, ps_12 t x m w.heap.size w _ _ rfl hla hr8 ht hA hB _ _ _, ps_13 t x m w.heap.size w _ _ rfl hla hr8 ht hA hB _ _ _, ps_14 t x m w.heap.size w _ _ rfl hla hr8 ht hA hB _ _ _, ps_15 t x m w.heap.size w _ _ rfl hla hr8 ht hA hB _ _ _, ps_16 t x m w.heap.size w _ _ rfl hla hr8 ht hA hB _ _ _, ps_17 t x m w.heap.size w _ _ rfl hla hr8 ht hA hB _ _ _, ps_18 t x m w.heap.size w _ _ rfl hla hr8 ht hA hB _ _ _, ps_19 t x m w.heap.size w _ _ rfl hla hr8 ht hA hB _ _ _, ps_20 t x m w.heap.size w _ _ rfl hla hr8 ht hA hB _ _ _, ps_21 t x m w.heap.size w _ _ rfl hla hr8 ht hA hB _ _ _, ps_22 t x m w.heap.size w _ _ rfl hla hr8 ht hA hB _ _ _, ps_23 t x m w.heap.size w _ _ rfl hla hr8 ht hA hB _ _ _, ps_24 t x m w.heap.size w _ _ rfl hla hr8 ht hA hB _ _ _, ps_25 t x m w.heap.size w _ _ rfl hla hr8 ht hA hB _ _ _, ps_26 t x m w.heap.size w _ _ rfl hla hr8 ht hA hB _ _ _, ps_27 t x m w.heap.size w _ _ rfl hla hr8 ht hA hB _ _ _, ps_28 t x m w.heap.size w _ _ rfl hla hr8 ht hA hB _ _ _, ps_29 t x m w.heap.size w _ _ rfl hla hr8 ht hA hB _ _ _, ps_30 t x m w.heap.size w _ _ rfl hla hr8 ht hA hB _ _ _, ps_31 t x m w.heap.size w _ _ rfl hla hr8 ht hA hB _ _ _, ps_32 t x m w.heap.size w _ _ rfl hla hr8 ht hA hB _ _ _, ps_33 t x m w.heap.size w _ _ rfl hla hr8 ht hA hB _ _ _, ps_34 t x m w.heap.size w _ _ rfl hla hr8 ht hA hB _ _ _, ps_35 t x m w.heap.size w _ _ rfl hla hr8 ht hA hB _ _ _, ps_36 t x m w.heap.size w _ _ rfl hla hr8 ht hA hB _ _ _, ps_37 t x m w.heap.size w _ _ rfl hla hr8 ht hA hB _ _ _, ps_38 t x m w.heap.size w _ _ rfl hla hr8 ht hA hB _ _ _, ps_39 t x m w.heap.size w _ _ rfl hla hr8 ht hA hB _ _ _, ps_40 t x m w.heap.size w _ _ rfl hla hr8 ht hA hB _ _ _, ps_41 t x m w.heap.size w _ _ rfl hla hr8 ht hA hB _ _ _, ps_42 t x m w.heap.size w _ _ rfl hla hr8 ht hA hB _ _ _, ps_43 t x m w.heap.size w _ _ rfl hla hr8 ht hA hB _ _ _, ps_44 t x m w.heap.size w _ _ rfl hla hr8 ht hA hB _ _ _, ps_45 t x m w.heap.size w _ _ rfl hla hr8 ht hA hB _ _ _, ps_46 t x m w.heap.size w _ _ rfl hla hr8 ht hA hB _ _ _, ps_47 t x m w.heap.size w _ _ rfl hla hr8 ht hA hB _ _ _, ps_48 t x m w.heap.size w _ _ rfl hla hr8 ht hA hB _ _ _, ps_49 t x m w.heap.size w _ _ rfl hla hr8 ht hA hB _ _ _, ps_50 t x m w.heap.size w _ _ rfl hla hr8 ht hA hB _ _ _, ps_51 t x m w.heap.size w _ _ rfl hla hr8 ht hA hB _ _ _, ps_52 t x m w.heap.size w _ _ rfl hla hr8 ht hA hB _ _ _, ps_53 t x m w.heap.size w _ _ rfl hla hr8 ht hA hB _ _ _, ps_54 t x m w.heap.size w _ _ rfl hla hr8 ht hA hB _ _ _, ps_55 t x m w.heap.size w _ _ rfl hla hr8 ht hA hB _ _ _, ps_56 t x m w.heap.size w _ _ rfl hla hr8 ht hA hB _ _ _, ps_57 t x m w.heap.size w _ _ rfl hla hr8 ht hA hB _ _ _, ps_58 t x m w.heap.size w _ _ rfl hla hr8 ht hA hB _ _ _, ps_59 t x m w.heap.size w _ _ rfl hla hr8 ht hA hB _ _ _, trivial⟩
  · intro a' w' hI hsz hdf hfr hty
    obtain ⟨B', hv, h9⟩ : ∃ B, (a'.tmps.getD 2 undef) = .slice (some ⟨B, 0, none⟩) 9 9 ∧ All9 t w' B m := hty _ (List.mem_of_getElem? (i := 59) rfl) 2 rfl
    rw [← gd] at hv
    obtain ⟨tm, df⟩ := a'
    obtain rfl : df = [] := hdf
    clear hty hfr hsz S0
    go_wp2_with fail
    exact bodyPost_ret (v := .slice (some ⟨B', 0, none⟩) 9 9) (by simp [results, Tryd.results31, go_sem, hv]) rfl ⟨B', rfl, h9, hI.1⟩
end Go.Proofs.YtjdalgejejllgaaDoor
