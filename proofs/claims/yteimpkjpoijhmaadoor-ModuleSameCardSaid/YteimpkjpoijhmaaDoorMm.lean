/-
  A module as data, how it lies in memory, and what the chapter says of it, by definition.
-/
import Derived.Test.YteimpkjpoijhmaaDoorLk
import Derived.Test.YteimpkjpoijhmaaDoorLg
import Derived.Test.YteimpkjpoijhmaaDoorLi
namespace Go.Proofs.YteimpkjpoijhmaaDoor
open Go.RowKit
set_option maxRecDepth 100000
set_option linter.unusedSimpArgs false
set_option linter.unusedVariables false

/-- A method: where its slices lie, its head, its code. -/
structure Me where
  x : Mc
  m : Mh
  k : List Ins
def Me.ok (w : World) (z : Me) : Prop := Hd w z.x z.m ∧ Ri w z.x.D z.x.e z.k ∧ z.k.length = z.x.k
theorem Me.ok.keep {w w' : World} {z : Me} (h : z.ok w) (hb : Below w.heap.size w w') : z.ok w' := ⟨h.1.keep hb, h.2.1.keep hb, h.2.2⟩
abbrev ze (z : Me) : Mh × List Ins := (z.m, z.k)
/-- The cells of methods. -/
def ce8 (z : Me) : List Value := [.slice z.x.A z.m.a.length z.x.c, .slice z.x.B z.m.l.length z.x.d, .int .u8 z.m.r, .bool z.m.q, .int .i64 z.m.f, .int .i64 z.m.s, .int .i64 z.m.h, .slice z.x.D z.x.k z.x.e]
def cem (Z : List Me) : List Value := Z.flatMap ce8
/-- The eight cells of a method at an address. -/
def At8 (w : World) (p : Addr) (z : Me) : Prop := w.cell? p = some (.slice z.x.A z.m.a.length z.x.c) ∧ w.cell? ⟨p.block, p.off + 1, none⟩ = some (.slice z.x.B z.m.l.length z.x.d) ∧ w.cell? ⟨p.block, p.off + 2, none⟩ = some (.int .u8 z.m.r) ∧
  w.cell? ⟨p.block, p.off + 3, none⟩ = some (.bool z.m.q) ∧ w.cell? ⟨p.block, p.off + 4, none⟩ = some (.int .i64 z.m.f) ∧ w.cell? ⟨p.block, p.off + 5, none⟩ = some (.int .i64 z.m.s) ∧ w.cell? ⟨p.block, p.off + 6, none⟩ = some (.int .i64 z.m.h) ∧
  w.cell? ⟨p.block, p.off + 7, none⟩ = some (.slice z.x.D z.x.k z.x.e)
theorem At8.keep {w w' : World} {p : Addr} {z : Me} (h : At8 w p z) (hb : Below w.heap.size w w') : At8 w' p z := by
  obtain ⟨h1, h2, h3, h4, h5, h6, h7, h8⟩ := h
  have k : ∀ {a : Addr} {v : Value}, w.cell? a = some v → w'.cell? a = some v := fun hv => (hb.cell (cell_lt hv)).trans hv
  exact ⟨k h1, k h2, k h3, k h4, k h5, k h6, k h7, k h8⟩
/-- The slice at A, of capacity c, reads as the methods Z. -/
def Rm (w : World) (A : Option Addr) (c : Nat) (Z : List Me) : Prop :=
  (∀ z ∈ Z, z.ok w) ∧ Z.length ≤ c ∧ c ≤ maxLen ∧ ((A = none ∧ c = 0) ∨ ∃ ad : Addr, A = some ad ∧ ∀ i z, Z[i]? = some z → At8 w (ad.add (i * 8)) z)
section
variable {w w' : World} {A : Option Addr} {c : Nat} {Z : List Me}
theorem Rm.le (h : Rm w A c Z) : Z.length ≤ c := h.2.1
theorem Rm.len (h : Rm w A c Z) : Z.length ≤ 9223372036854775807 := Nat.le_trans h.le h.2.2.1
theorem Rm.at_ (h : Rm w A c Z) {i : Nat} (hi : i < Z.length) : ∃ ad : Addr, A = some ad ∧ At8 w (ad.add (i * 8)) Z[i] ∧ (Z[i]).ok w := by
  rcases h.2.2.2 with ⟨_, hc⟩ | ⟨ad, ha, hc⟩
  · have := h.le; omega
  · exact ⟨ad, ha, hc i _ (List.getElem?_eq_getElem hi), h.1 _ (List.getElem_mem hi)⟩
theorem Rm.none_ (w : World) : Rm w none 0 [] := ⟨fun x hx => (by cases hx), Nat.le_refl _, Nat.zero_le _, .inl ⟨rfl, rfl⟩⟩
theorem Rm.keep (h : Rm w A c Z) (hb : Below w.heap.size w w') : Rm w' A c Z := by
  refine ⟨fun z hz => (h.1 z hz).keep hb, h.2.1, h.2.2.1, ?_⟩
  rcases h.2.2.2 with hn | ⟨ad, ha, hc⟩
  · exact .inl hn
  · exact .inr ⟨ad, ha, fun i z hz => (hc i z hz).keep hb⟩
end
/-- A module, and where it lies. -/
structure Md where
  g : List Vlu
  p : List Vlu
  s : List (Mh × List Ins)
  i : Int
structure Ma where
  G : Option Addr
  gc : Nat
  P : Option Addr
  pc : Nat
  A : Option Addr
  c : Nat
  Z : List Me
def Md.zero : Md := ⟨[], [], [], 0⟩
def Ma.zero : Ma := ⟨none, 0, none, 0, none, 0, []⟩
abbrev dv (y : Ma) (d : Md) : Value := .agg #[.slice y.G d.g.length y.gc, .slice y.P d.p.length y.pc, .slice y.A d.s.length y.c, .int .i64 d.i]
def dcel (y : Ma) (d : Md) : Obj := .cells #[.slice y.G d.g.length y.gc, .slice y.P d.p.length y.pc, .slice y.A d.s.length y.c, .int .i64 d.i] 25
/-- The value reads as the module. -/
def Hq (w : World) (y : Ma) (d : Md) : Prop := Rv w y.G y.gc d.g ∧ Rv w y.P y.pc d.p ∧ Rm w y.A y.c y.Z ∧ y.Z.map ze = d.s ∧ (-9223372036854775808 ≤ d.i ∧ d.i ≤ 9223372036854775807)
theorem Hq.keep {w w' : World} {y : Ma} {d : Md} (h : Hq w y d) (hb : Below w.heap.size w w') : Hq w' y d := ⟨h.1.keep hb, h.2.1.keep hb, h.2.2.1.keep hb, h.2.2.2⟩
theorem Hq.zero (w : World) : Hq w Ma.zero Md.zero := ⟨Rv.none_ w, Rv.none_ w, Rm.none_ w, rfl, by unfold Md.zero; decide⟩
theorem Hq.zlen {w : World} {y : Ma} {d : Md} (h : Hq w y d) : y.Z.length = d.s.length := by rw [← h.2.2.2.1, List.length_map]
theorem Hq.zat {w : World} {y : Ma} {d : Md} (h : Hq w y d) {i : Nat} (h1 : i < y.Z.length) (h2 : i < d.s.length) : d.s[i] = ((y.Z[i]).m, (y.Z[i]).k) := by
  have e := h.2.2.2.1
  have : d.s[i]? = (y.Z.map ze)[i]? := by rw [e]
  rw [List.getElem?_eq_getElem h2, List.getElem?_map, List.getElem?_eq_getElem h1] at this
  simpa using this
abbrev fQm (y : Ma) (d : Md) : Fct := ⟨fun w => Hq w y d, fun _ _ h hb => h.keep hb⟩
/-- The module lies in block B. -/
def Db (w : World) (B : Nat) (y : Ma) (d : Md) : Prop := B < w.heap.size ∧ w.cell? ⟨B, 0, none⟩ = some (.slice y.G d.g.length y.gc) ∧ w.cell? ⟨B, 1, none⟩ = some (.slice y.P d.p.length y.pc) ∧ w.cell? ⟨B, 2, none⟩ = some (.slice y.A d.s.length y.c) ∧ w.cell? ⟨B, 3, none⟩ = some (.int .i64 d.i)
theorem Db.new (w : World) (y : Ma) (d : Md) : Db (w.alloc (dcel y d)) w.heap.size y d := by
  refine ⟨by simp, ?_, ?_, ?_, ?_⟩ <;> simp [go_sem, dcel]
theorem Db.keep {w w' : World} {B : Nat} {y : Ma} {d : Md} (h : Db w B y d) (hb : Below w.heap.size w w') : Db w' B y d := by
  obtain ⟨h0, h1, h2, h3, h4⟩ := h
  obtain ⟨hc, hf⟩ := bcell hb
  exact ⟨Nat.lt_of_lt_of_le h0 hb.size, (hc _ _ h0).trans h1, (hc _ _ h0).trans h2, (hc _ _ h0).trans h3, (hc _ _ h0).trans h4⟩
abbrev fD (B : Nat) (y : Ma) (d : Md) : Fct := ⟨fun w => Db w B y d, fun _ _ h hb => h.keep hb⟩
theorem Sx.mkD {w0 w : World} {L : List Fct} (h : Sx w0 w L) (y : Ma) (d : Md) : Sx w0 (w.alloc (dcel y d)) (fD w.heap.size y d :: L) := (h.mk1 _).add (fD w.heap.size y d) (Db.new w y d)

/-! What the chapter says. -/
def qgE (z : Mh × List Ins) : Bool := gB z.1 || decide (300 < z.2.length)
def qG (d : Md) : Bool := decide (100 < d.g.length) || (decide (100 < d.p.length) || (decide (40 < d.s.length) || d.s.any qgE))
/-- The first method's error. -/
def qmE : List (Mh × List Ins) → Int
  | [] => 0
  | z :: s => if mM z.1 = true then (if codM z.2 = true then qmE s else 40) else 70
def qmB (s : List (Mh × List Ins)) : List Int := s.flatMap fun z => mL z.1 ++ codB z.2
def qX (d : Md) : List Int := poB d.g ++ (poB d.p ++ ((d.s.length : Int) :: (qmB d.s ++ [if d.i < 0 then 255 else d.i])))
def qE (d : Md) : Int :=
  if 4 < d.g.length ∨ 16 < d.s.length ∨ d.i < -1 ∨ (d.s.length : Int) ≤ d.i then 80 else
  if poM d.g = true then (if poM d.p = true then (if qmE d.s = 0 then (if 2000 < (qX d).length then 3 else 0) else qmE d.s) else 60) else 60
def qB (d : Md) : List Int := if qE d = 0 then qX d else []
def qsS : List (Mh × List Ins) → List (Mh × List Ins) → Bool
  | [], [] => true
  | z :: s, y :: t => (mS z.1 y.1 && decide (z.2 = y.2)) && qsS s t
  | _, _ => false
def qS (a b : Md) : Bool := a.i == b.i && (decide (a.g = b.g) && (decide (a.p = b.p) && qsS a.s b.s))
theorem qsS_iff : ∀ {s t : List (Mh × List Ins)}, qsS s t = true ↔ s = t
  | [], [] => by simp [qsS]
  | [], _ :: _ => by simp [qsS]
  | _ :: _, [] => by simp [qsS]
  | (m, k) :: s, (m', k') :: t => by
    rw [qsS, Bool.and_eq_true, Bool.and_eq_true, mS_iff, qsS_iff (s := s) (t := t)]
    simp
theorem qS_iff {a b : Md} : qS a b = true ↔ a = b := by
  obtain ⟨g, p, s, i⟩ := a
  obtain ⟨g', p', s', i'⟩ := b
  simp only [qS, Bool.and_eq_true, qsS_iff, decide_eq_true_eq, beq_iff_eq, Md.mk.injEq]
  constructor
  · rintro ⟨h1, h2, h3, h4⟩; exact ⟨h2, h3, h4, h1⟩
  · rintro ⟨h2, h3, h4, h1⟩; exact ⟨h1, h2, h3, h4⟩
theorem qS_self (d : Md) : qS d d = true := qS_iff.2 rfl
theorem qS_comm (a b : Md) : qS a b = qS b a := by
  rw [Bool.eq_iff_iff, qS_iff, qS_iff]
  exact eq_comm
end Go.Proofs.YteimpkjpoijhmaaDoor
