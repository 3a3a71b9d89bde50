/-
  A method's head as data, how it lies in memory, and what the chapter says of it, by definition.
-/
import Derived.Test.YtjdalgejejllgaaDoorPv
namespace Go.Proofs.YtjdalgejejllgaaDoor
open Go.RowKit
set_option maxRecDepth 100000
set_option linter.unusedSimpArgs false
set_option linter.unusedVariables false

/-- A head: the arguments' kinds, the other locals' kinds, the result's kind, whether it reads, fuel, stack, heap. -/
structure Mh where
  a : List Int
  l : List Int
  r : Int
  q : Bool
  f : Int
  s : Int
  h : Int
/-- Where its three slices lie. -/
structure Mc where
  A : Option Addr
  c : Nat
  B : Option Addr
  d : Nat
  D : Option Addr
  k : Nat
  e : Nat
def Mh.zero : Mh := ⟨[], [], 0, false, 0, 0, 0⟩
def Mc.zero : Mc := ⟨none, 0, none, 0, none, 0, 0⟩
abbrev mv (x : Mc) (m : Mh) : Value := .agg #[.slice x.A m.a.length x.c, .slice x.B m.l.length x.d, .int .u8 m.r, .bool m.q, .int .i64 m.f, .int .i64 m.s, .int .i64 m.h, .slice x.D x.k x.e]
abbrev hcel (x : Mc) (m : Mh) : Obj := .cells #[.slice x.A m.a.length x.c, .slice x.B m.l.length x.d, .int .u8 m.r, .bool m.q, .int .i64 m.f, .int .i64 m.s, .int .i64 m.h, .slice x.D x.k x.e] 25
def Mh.nums (m : Mh) : Prop := (0 ≤ m.r ∧ m.r < 256) ∧ (-9223372036854775808 ≤ m.f ∧ m.f ≤ 9223372036854775807) ∧ (-9223372036854775808 ≤ m.s ∧ m.s ≤ 9223372036854775807) ∧ (-9223372036854775808 ≤ m.h ∧ m.h ≤ 9223372036854775807)
/-- The value reads as the head. -/
def Hd (w : World) (x : Mc) (m : Mh) : Prop := Rd w x.A x.c m.a ∧ Rd w x.B x.d m.l ∧ m.nums
theorem Hd.keep {w w' : World} {x : Mc} {m : Mh} (h : Hd w x m) (hb : Below w.heap.size w w') : Hd w' x m := ⟨h.1.keep hb, h.2.1.keep hb, h.2.2⟩
theorem Hd.la {w : World} {x : Mc} {m : Mh} (h : Hd w x m) : m.a.length ≤ 9223372036854775807 := h.1.len
theorem Hd.ll {w : World} {x : Mc} {m : Mh} (h : Hd w x m) : m.l.length ≤ 9223372036854775807 := h.2.1.len
theorem Hd.zero (w : World) : Hd w Mc.zero Mh.zero := ⟨Rd.none_ w, Rd.none_ w, by unfold Mh.nums Mh.zero; decide⟩
abbrev fH (x : Mc) (m : Mh) : Fct := ⟨fun w => Hd w x m, fun _ _ h hb => h.keep hb⟩
/-- The head lies in block B. -/
def Mb (w : World) (B : Nat) (x : Mc) (m : Mh) : Prop := B < w.heap.size ∧ w.cell? ⟨B, 0, none⟩ = some (.slice x.A m.a.length x.c) ∧ w.cell? ⟨B, 1, none⟩ = some (.slice x.B m.l.length x.d) ∧
  w.cell? ⟨B, 2, none⟩ = some (.int .u8 m.r) ∧ w.cell? ⟨B, 3, none⟩ = some (.bool m.q) ∧ w.cell? ⟨B, 4, none⟩ = some (.int .i64 m.f) ∧ w.cell? ⟨B, 5, none⟩ = some (.int .i64 m.s) ∧ w.cell? ⟨B, 6, none⟩ = some (.int .i64 m.h) ∧
  w.cell? ⟨B, 7, none⟩ = some (.slice x.D x.k x.e)
theorem Mb.new (w : World) (x : Mc) (m : Mh) : Mb (w.alloc (hcel x m)) w.heap.size x m := by
  refine ⟨by simp, ?_, ?_, ?_, ?_, ?_, ?_, ?_, ?_⟩ <;> simp [go_sem]
theorem Mb.keep {w w' : World} {B : Nat} {x : Mc} {m : Mh} (h : Mb w B x m) (hb : Below w.heap.size w w') : Mb w' B x m := by
  obtain ⟨h0, h1, h2, h3, h4, h5, h6, h7, h8⟩ := h
  obtain ⟨hc, hf⟩ := bcell hb
  exact ⟨Nat.lt_of_lt_of_le h0 hb.size, (hc _ _ h0).trans h1, (hc _ _ h0).trans h2, (hc _ _ h0).trans h3, (hc _ _ h0).trans h4, (hc _ _ h0).trans h5, (hc _ _ h0).trans h6, (hc _ _ h0).trans h7, (hc _ _ h0).trans h8⟩
theorem Mb.other {w : World} {B : Nat} {x : Mc} {m : Mh} (h : Mb w B x m) {p : Addr} (hp : p.block ≠ B) (v : Value) : Mb (w.setCell p v) B x m := by
  obtain ⟨h0, h1, h2, h3, h4, h5, h6, h7, h8⟩ := h
  have ne : ∀ i, p ≠ (⟨B, i, none⟩ : Addr) := fun i e => hp (by rw [e])
  refine ⟨by simpa using h0, ?_, ?_, ?_, ?_, ?_, ?_, ?_, ?_⟩ <;> (rw [World.cell?_setCell_other _ _ _ _ (ne _)]; assumption)
abbrev fM (B : Nat) (x : Mc) (m : Mh) : Fct := ⟨fun w => Mb w B x m, fun _ _ h hb => h.keep hb⟩
theorem Sx.mkM {w0 w : World} {L : List Fct} (h : Sx w0 w L) (x : Mc) (m : Mh) : Sx w0 (w.alloc (hcel x m)) (fM w.heap.size x m :: L) := (h.mk1 _).add (fM w.heap.size x m) (Mb.new w x m)

/-! What the chapter says. -/
def kO (l : List Int) : Bool := l.all fun x => decide (1 ≤ x) && decide (x ≤ 3)
def mM (m : Mh) : Bool := decide (m.a.length ≤ 4) && (decide (m.l.length + m.a.length ≤ 16) && (kO m.a && (kO m.l && ((decide (1 ≤ m.r) && decide (m.r ≤ 2)) && ((decide (0 ≤ m.f) && decide (m.f ≤ 1048576)) && ((decide (0 ≤ m.s) && decide (m.s ≤ 256)) && (decide (0 ≤ m.h) && decide (m.h ≤ 1024))))))))
def mG (m : Mh) : Bool := mM m && !m.a.contains 3
def mS (a b : Mh) : Bool := a.a == b.a && (a.l == b.l && (a.r == b.r && (a.q == b.q && (a.f == b.f && (a.s == b.s && a.h == b.h)))))
def fl (q : Bool) : Int := if q then 1 else 0
def mZ (m : Mh) : List Vlu := if mM m then m.l.map fun k => (k, 0, 0) else []
def fitL : List Int → List Vlu → Bool
  | [], [] => true
  | k :: K, x :: X => (x.1 == k && insB x.1 x.2.1 x.2.2) && fitL K X
  | _, _ => false
def mF (m : Mh) (X : List Vlu) : Bool := mM m && fitL m.a X
def mL (m : Mh) : List Int := if mM m then ((m.a.length : Int) :: m.a) ++ (((m.l.length : Int) :: m.l) ++ ([m.r, fl m.q] ++ (digs m.f 3 ++ (digs m.s 2 ++ digs m.h 2)))) else []
def mE (m : Mh) : Int := if mM m then 0 else 70
theorem mS_iff {a b : Mh} : mS a b = true ↔ a = b := by
  obtain ⟨a1, a2, a3, a4, a5, a6, a7⟩ := a
  obtain ⟨b1, b2, b3, b4, b5, b6, b7⟩ := b
  simp [mS]
theorem mS_self (m : Mh) : mS m m = true := mS_iff.2 rfl
theorem mS_comm (a b : Mh) : mS a b = mS b a := by
  rw [Bool.eq_iff_iff, mS_iff, mS_iff]
  exact eq_comm
theorem mM_iff {m : Mh} : mM m = true ↔ m.a.length ≤ 4 ∧ m.l.length + m.a.length ≤ 16 ∧ kO m.a = true ∧ kO m.l = true ∧ (1 ≤ m.r ∧ m.r ≤ 2) ∧ (0 ≤ m.f ∧ m.f ≤ 1048576) ∧ (0 ≤ m.s ∧ m.s ≤ 256) ∧ (0 ≤ m.h ∧ m.h ≤ 1024) := by
  simp [mM, and_assoc]
theorem kO_at {l : List Int} (h : kO l = true) {x : Int} (hx : x ∈ l) : 1 ≤ x ∧ x ≤ 3 := by
  have := List.all_eq_true.1 h x hx
  simpa using this
end Go.Proofs.YtjdalgejejllgaaDoor
