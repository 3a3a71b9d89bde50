/-
  St, Val, Val2, Vfld, Vby, Vread, Vmath, Vmt: in one text.
-/
import Derived.Test.YtimjnmkfbdijeaaLa
import Derived.Test.YtimjnmkfbdijeaaLc
import Derived.Laws.StructEq
import Derived.Lib.Bytes
namespace Go.Proofs.Ytimjnmkfbdijeaa
open Go.RowKit

theorem size1 (w : World) (o : Obj) : (w.alloc o).heap.size = w.heap.size + 1 := by simp
/-- A fact on memory that a call can't break. -/
structure Fct where
  p : World → Prop
  keep : ∀ w w', p w → Below w.heap.size w w' → p w'
def Facts (w : World) : List Fct → Prop
  | [] => True
  | f :: L => f.p w ∧ Facts w L
theorem Facts.keep {w w' : World} {L : List Fct} (h : Facts w L) (hb : Below w.heap.size w w') : Facts w' L := by
  induction L with
  | nil => trivial
  | cons f L ih => exact ⟨f.keep _ _ h.1 hb, ih h.2⟩
/-- Below w0's heap nothing has changed, and the facts hold. -/
def Sx (w0 w : World) (L : List Fct) : Prop := Below w0.heap.size w0 w ∧ Facts w L
theorem Sx.call {w0 w w' : World} {L : List Fct} (h : Sx w0 w L) (hb : Below w.heap.size w w') : Sx w0 w' L := ⟨below_on h.1 hb, h.2.keep hb⟩
/-- Behind a write to memory of the walk's own: what lies below the world of the facts. -/
theorem Sx.onto {w0 w w' : World} {L : List Fct} (h : Sx w0 w L) (hb : Below w.heap.size w w') : Sx w0 w' L := h.call hb
theorem Sx.mk1 {w0 w : World} {L : List Fct} (h : Sx w0 w L) (o : Obj) : Sx w0 (w.alloc o) L := h.call new1
theorem Sx.add {w0 w : World} {L : List Fct} (h : Sx w0 w L) (f : Fct) (hf : f.p w) : Sx w0 w (f :: L) := ⟨h.1, hf, h.2⟩
theorem Sx.start (w : World) : Sx w w [] := ⟨Below.refl _ _, trivial⟩

/-- A value of three cells (a kind and two numbers) lies at block B. -/
def Vl (w : World) (B : Nat) (k a b : Int) : Prop := B < w.heap.size ∧ w.cell? ⟨B, 0, none⟩ = some (.int .u8 k) ∧ w.cell? ⟨B, 1, none⟩ = some (.int .i64 a) ∧ w.cell? ⟨B, 2, none⟩ = some (.int .i64 b) ∧
  w.frozen? ⟨B, 0, none⟩ = false ∧ w.frozen? ⟨B, 1, none⟩ = false ∧ w.frozen? ⟨B, 2, none⟩ = false
theorem Vl.keep {w w' : World} {B : Nat} {k a b : Int} (h : Vl w B k a b) (hb : Below w.heap.size w w') : Vl w' B k a b := by
  obtain ⟨h1, h2, h3, h4, h5, h6, h7⟩ := h
  obtain ⟨hc, hf⟩ := bcell hb
  exact ⟨Nat.lt_of_lt_of_le h1 hb.size, (hc _ _ h1).trans h2, (hc _ _ h1).trans h3, (hc _ _ h1).trans h4, (hf _ _ h1).trans h5, (hf _ _ h1).trans h6, (hf _ _ h1).trans h7⟩
theorem Vl.keep_d {w w' : World} {B : Nat} {k a b : Int} (h : Vl w B k a b) (hb : Below w.drew.heap.size w.drew w') : Vl w' B k a b := Vl.keep (w := w.drew) h hb
theorem Vl.new (w : World) (k a b : Int) : Vl (w.alloc (.cells #[.int .u8 k, .int .i64 a, .int .i64 b] 69)) w.heap.size k a b := by
  refine ⟨by simp, ?_, ?_, ?_, ?_, ?_, ?_⟩ <;> simp [go_sem]
theorem Vl.alloc {w : World} {B : Nat} {k a b : Int} (h : Vl w B k a b) (o : Obj) : Vl (w.alloc o) B k a b := h.keep new1
theorem Vl.set0 {w : World} {B : Nat} {k a b : Int} (h : Vl w B k a b) (k' : Int) : Vl (w.setCell ⟨B, 0, none⟩ (.int .u8 k')) B k' a b := by
  obtain ⟨h1, h2, h3, h4, h5, h6, h7⟩ := h
  refine ⟨by simpa using h1, ?_, ?_, ?_, ?_, ?_, ?_⟩ <;> simp [go_sem, h2, h3, h4, h5, h6, h7]
theorem Vl.set1 {w : World} {B : Nat} {k a b : Int} (h : Vl w B k a b) (a' : Int) : Vl (w.setCell ⟨B, 1, none⟩ (.int .i64 a')) B k a' b := by
  obtain ⟨h1, h2, h3, h4, h5, h6, h7⟩ := h
  refine ⟨by simpa using h1, ?_, ?_, ?_, ?_, ?_, ?_⟩ <;> simp [go_sem, h2, h3, h4, h5, h6, h7]
theorem Vl.set2 {w : World} {B : Nat} {k a b : Int} (h : Vl w B k a b) (b' : Int) : Vl (w.setCell ⟨B, 2, none⟩ (.int .i64 b')) B k a b' := by
  obtain ⟨h1, h2, h3, h4, h5, h6, h7⟩ := h
  refine ⟨by simpa using h1, ?_, ?_, ?_, ?_, ?_, ?_⟩ <;> simp [go_sem, h2, h3, h4, h5, h6, h7]
theorem Vl.other {w : World} {B : Nat} {k a b : Int} (h : Vl w B k a b) {p : Addr} (hp : p.block ≠ B) (v : Value) : Vl (w.setCell p v) B k a b := by
  obtain ⟨h1, h2, h3, h4, h5, h6, h7⟩ := h
  have ne : ∀ i, p ≠ (⟨B, i, none⟩ : Addr) := fun i e => hp (by rw [e])
  refine ⟨by simpa using h1, ?_, ?_, ?_, ?_, ?_, ?_⟩
  · rw [World.cell?_setCell_other _ _ _ _ (ne 0)]; exact h2
  · rw [World.cell?_setCell_other _ _ _ _ (ne 1)]; exact h3
  · rw [World.cell?_setCell_other _ _ _ _ (ne 2)]; exact h4
  · simpa using h5
  · simpa using h6
  · simpa using h7
abbrev fV (B : Nat) (k a b : Int) : Fct := ⟨fun w => Vl w B k a b, fun _ _ h hb => h.keep hb⟩
abbrev fR (A : Option Addr) (c : Nat) (l : List Int) : Fct := ⟨fun w => Rd w A c l, fun _ _ h hb => h.keep hb⟩
theorem Sx.newV {w0 w w' : World} {L : List Fct} (h : Sx w0 w L) {k a b : Int} (hb : Below (w.alloc (.cells #[.int .u8 k, .int .i64 a, .int .i64 b] 69)).heap.size (w.alloc (.cells #[.int .u8 k, .int .i64 a, .int .i64 b] 69)) w') : Sx w0 w' (fV w.heap.size k a b :: L) :=
  ((h.mk1 _).add (fV w.heap.size k a b) (Vl.new w k a b)).call hb
theorem Sx.mkV {w0 w : World} {L : List Fct} (h : Sx w0 w L) (k a b : Int) : Sx w0 (w.alloc (.cells #[.int .u8 k, .int .i64 a, .int .i64 b] 69)) (fV w.heap.size k a b :: L) := h.newV (Below.refl _ _)

/-- Two numbers lie at block B. -/
def P2 (w : World) (B : Nat) (x y : Int) : Prop := B < w.heap.size ∧ w.cell? ⟨B, 0, none⟩ = some (.int .i64 x) ∧ w.cell? ⟨B, 1, none⟩ = some (.int .i64 y) ∧ w.frozen? ⟨B, 0, none⟩ = false ∧ w.frozen? ⟨B, 1, none⟩ = false
theorem P2.keep {w w' : World} {B : Nat} {x y : Int} (h : P2 w B x y) (hb : Below w.heap.size w w') : P2 w' B x y := by
  obtain ⟨h1, h2, h3, h4, h5⟩ := h
  obtain ⟨hc, hf⟩ := bcell hb
  exact ⟨Nat.lt_of_lt_of_le h1 hb.size, (hc _ _ h1).trans h2, (hc _ _ h1).trans h3, (hf _ _ h1).trans h4, (hf _ _ h1).trans h5⟩
theorem P2.new (w : World) (x y : Int) (t : Nat) : P2 (w.alloc (.cells #[.int .i64 x, .int .i64 y] t)) w.heap.size x y := by
  refine ⟨by simp, ?_, ?_, ?_, ?_⟩ <;> simp [go_sem]
theorem P2.other {w : World} {B : Nat} {x y : Int} (h : P2 w B x y) {p : Addr} (hp : p.block ≠ B) (v : Value) : P2 (w.setCell p v) B x y := by
  obtain ⟨h1, h2, h3, h4, h5⟩ := h
  have ne : ∀ i, p ≠ (⟨B, i, none⟩ : Addr) := fun i e => hp (by rw [e])
  refine ⟨by simpa using h1, ?_, ?_, ?_, ?_⟩
  · rw [World.cell?_setCell_other _ _ _ _ (ne 0)]; exact h2
  · rw [World.cell?_setCell_other _ _ _ _ (ne 1)]; exact h3
  · simpa using h4
  · simpa using h5
abbrev fP (B : Nat) (x y : Int) : Fct := ⟨fun w => P2 w B x y, fun _ _ h hb => h.keep hb⟩
theorem Sx.mkP {w0 w : World} {L : List Fct} (h : Sx w0 w L) (x y : Int) (t : Nat) : Sx w0 (w.alloc (.cells #[.int .i64 x, .int .i64 y] t)) (fP w.heap.size x y :: L) := (h.mk1 _).add (fP w.heap.size x y) (P2.new w x y t)

theorem Hsx.call {w0 w1 w2 : World} {L : List Fct} (hb : Below w1.heap.size w1 w2) (h : Hid (Sx w0 w1 L)) : Hid (Sx w0 w2 L) := Lib.hid (h.out.call hb)
theorem Sx.drewN {w0 w : World} {L : List Fct} (h : Sx w0 w L) (q : Nat) : Sx w0 (w.drewN q) L :=
  h.call (below_draws (Below.refl _ _) q)
theorem Hsx.drew {w0 w1 : World} {L : List Fct} (h : Hid (Sx w0 w1 L)) : Hid (Sx w0 w1.drew L) := Lib.hid (h.out.drewN 1)
/-! The cells of the first values of the list, for a region that loads beside calls. -/
theorem vals1 {w0 w : World} {L : List Fct} {B : Nat} {k a b : Int} (h : Hid (Sx w0 w (fV B k a b :: L))) :
    w.cell? ⟨B, 0, none⟩ = some (.int .u8 k) ∧ w.cell? ⟨B, 1, none⟩ = some (.int .i64 a) ∧ w.cell? ⟨B, 2, none⟩ = some (.int .i64 b) ∧ Hid (Sx w0 w (fV B k a b :: L)) := by
  obtain ⟨_, h1, _⟩ := h.out
  exact ⟨h1.2.1, h1.2.2.1, h1.2.2.2.1, h⟩
theorem vals1_on {w0 w1 w2 : World} {L : List Fct} {B : Nat} {k a b : Int} (hb : Below w1.heap.size w1 w2)
    (h : w1.cell? ⟨B, 0, none⟩ = some (.int .u8 k) ∧ w1.cell? ⟨B, 1, none⟩ = some (.int .i64 a) ∧ w1.cell? ⟨B, 2, none⟩ = some (.int .i64 b) ∧ Hid (Sx w0 w1 (fV B k a b :: L))) :
    w2.cell? ⟨B, 0, none⟩ = some (.int .u8 k) ∧ w2.cell? ⟨B, 1, none⟩ = some (.int .i64 a) ∧ w2.cell? ⟨B, 2, none⟩ = some (.int .i64 b) ∧ Hid (Sx w0 w2 (fV B k a b :: L)) := vals1 (Hsx.call hb h.2.2.2)
theorem vals1_st {w0 w : World} {L : List Fct} {B : Nat} {k a b : Int}
    (h : w.cell? ⟨B, 0, none⟩ = some (.int .u8 k) ∧ w.cell? ⟨B, 1, none⟩ = some (.int .i64 a) ∧ w.cell? ⟨B, 2, none⟩ = some (.int .i64 b) ∧ Hid (Sx w0 w (fV B k a b :: L))) : Hid (Sx w0 w (fV B k a b :: L)) := h.2.2.2
theorem vals2 {w0 w : World} {L : List Fct} {B C : Nat} {k a b m c d : Int} (h : Hid (Sx w0 w (fV B k a b :: fV C m c d :: L))) :
    w.cell? ⟨B, 0, none⟩ = some (.int .u8 k) ∧ w.cell? ⟨B, 1, none⟩ = some (.int .i64 a) ∧ w.cell? ⟨B, 2, none⟩ = some (.int .i64 b) ∧ w.cell? ⟨C, 0, none⟩ = some (.int .u8 m) ∧ w.cell? ⟨C, 1, none⟩ = some (.int .i64 c) ∧ w.cell? ⟨C, 2, none⟩ = some (.int .i64 d) ∧ Hid (Sx w0 w (fV B k a b :: fV C m c d :: L)) := by
  obtain ⟨_, h1, h2, _⟩ := h.out
  exact ⟨h1.2.1, h1.2.2.1, h1.2.2.2.1, h2.2.1, h2.2.2.1, h2.2.2.2.1, h⟩
theorem vals2_on {w0 w1 w2 : World} {L : List Fct} {B C : Nat} {k a b m c d : Int} (hb : Below w1.heap.size w1 w2)
    (h : w1.cell? ⟨B, 0, none⟩ = some (.int .u8 k) ∧ w1.cell? ⟨B, 1, none⟩ = some (.int .i64 a) ∧ w1.cell? ⟨B, 2, none⟩ = some (.int .i64 b) ∧ w1.cell? ⟨C, 0, none⟩ = some (.int .u8 m) ∧ w1.cell? ⟨C, 1, none⟩ = some (.int .i64 c) ∧ w1.cell? ⟨C, 2, none⟩ = some (.int .i64 d) ∧ Hid (Sx w0 w1 (fV B k a b :: fV C m c d :: L))) :
    w2.cell? ⟨B, 0, none⟩ = some (.int .u8 k) ∧ w2.cell? ⟨B, 1, none⟩ = some (.int .i64 a) ∧ w2.cell? ⟨B, 2, none⟩ = some (.int .i64 b) ∧ w2.cell? ⟨C, 0, none⟩ = some (.int .u8 m) ∧ w2.cell? ⟨C, 1, none⟩ = some (.int .i64 c) ∧ w2.cell? ⟨C, 2, none⟩ = some (.int .i64 d) ∧ Hid (Sx w0 w2 (fV B k a b :: fV C m c d :: L)) := vals2 (Hsx.call hb h.2.2.2.2.2.2)
theorem vals2_st {w0 w : World} {L : List Fct} {B C : Nat} {k a b m c d : Int}
    (h : w.cell? ⟨B, 0, none⟩ = some (.int .u8 k) ∧ w.cell? ⟨B, 1, none⟩ = some (.int .i64 a) ∧ w.cell? ⟨B, 2, none⟩ = some (.int .i64 b) ∧ w.cell? ⟨C, 0, none⟩ = some (.int .u8 m) ∧ w.cell? ⟨C, 1, none⟩ = some (.int .i64 c) ∧ w.cell? ⟨C, 2, none⟩ = some (.int .i64 d) ∧ Hid (Sx w0 w (fV B k a b :: fV C m c d :: L))) : Hid (Sx w0 w (fV B k a b :: fV C m c d :: L)) := h.2.2.2.2.2.2

/-- '==' of two values. -/
theorem eq_val (d : Nat) (k a b k' a' b' : Int) (v : Bool) (h : (k == k' && a == a' && b == b') = v) (w : World) : (Op.equalIn (d + 1 + 1) 69 (.agg #[.int .u8 k, .int .i64 a, .int .i64 b]) (.agg #[.int .u8 k', .int .i64 a', .int .i64 b'])).run Try.prog w = .ok v w := by
  have hS : Try.prog.underlying 69 = some (.struct (Try.prog.fieldsOf 69)) := by kernel_rfl
  have hp : Try.prog.stoodInHeld 69 = false := by kernel_rfl
  have u1 := Try.underlying5
  have u2 := Try.underlying2
  have h0 : ∀ u v t : Value, (part 5 #[u, v, t] 0).run Try.prog w = .ok u w := fun u v t => by kernel_rfl
  have h1 : ∀ u v t : Value, (part 2 #[u, v, t] 1).run Try.prog w = .ok v w := fun u v t => by kernel_rfl
  have h2 : ∀ u v t : Value, (part 2 #[u, v, t] 2).run Try.prog w = .ok t w := fun u v t => by kernel_rfl
  rw [run_equalIn_agg w (d + 1) 69 _ _ hS hp]
  simp only [Program.fieldsOf, Try.underlying69]
  subst h
  go_simp
  by_cases e1 : k = k' <;> by_cases e2 : a = a' <;> by_cases e3 : b = b' <;> simp [e1, e2, e3]
end Go.Proofs.Ytimjnmkfbdijeaa
namespace Go.Proofs.Ytimjnmkfbdijeaa
open Go.RowKit
set_option linter.unusedSimpArgs false

/-- Whether a value is external; internal; a kind. -/
def mayB (k a b : Int) : Bool := (k == 1 && b == 0) || (k == 2 && okB a b)
def insB (k a b : Int) : Bool := mayB k a b || (decide (0 ≤ a) && (k == 3 && b == 0))
def kB (k : Int) : Bool := k == 1 || k == 2 || k == 3

end Go.Proofs.Ytimjnmkfbdijeaa
namespace Go.Proofs.Ytimjnmkfbdijeaa
open Go.RowKit

theorem okB_0 : okB 0 0 = true := by decide
theorem insB_0 (k : Int) : insB k 0 0 = kB k := by
  simp [insB, mayB, kB, okB_0]
end Go.Proofs.Ytimjnmkfbdijeaa
namespace Go.Proofs.Ytimjnmkfbdijeaa
open Go.RowKit
set_option linter.unusedSimpArgs false

/-- A value's bytes, and its error. -/
def valB (k a b : Int) : List Int := if k = 1 then 1 :: digs a 8 else 2 :: (digs (a + 1048576) 3 ++ digs (b + 1048576) 3)
def bytE (k a b : Int) : Int := if mayB k a b then 0 else 30
def bytL (k a b : Int) : List Int := if mayB k a b then valB k a b else []
end Go.Proofs.Ytimjnmkfbdijeaa
namespace Go.Proofs.Ytimjnmkfbdijeaa
open Go.RowKit
set_option linter.unusedSimpArgs false
set_option linter.unusedVariables false

end Go.Proofs.Ytimjnmkfbdijeaa
namespace Go.Proofs.Ytimjnmkfbdijeaa
open Go.RowKit
set_option linter.unusedSimpArgs false
set_option linter.unusedVariables false

end Go.Proofs.Ytimjnmkfbdijeaa
namespace Go.Proofs.Ytimjnmkfbdijeaa
open Go.RowKit

/-- Three bytes from a on. -/
def x3 (l : List Int) (a : Nat) : Int := num ((l.drop a).take 3)
/-- Read's answer: kind, first, second, next, error. -/
def rdT (l : List Int) (p : Int) : Int × Int × Int × Int × Int :=
  if p < 0 ∨ (l.length : Int) < p then (0, 0, 0, 0, 2)
  else if (l.length : Int) = p then (0, 0, 0, 0, 10)
  else if l[p.toNat]?.getD 0 = 1 then (if l.length < p.toNat + 9 then (0, 0, 0, 0, 10) else (1, wrap64 (num ((l.drop (p.toNat + 1)).take 8)), 0, p + 9, 0))
  else if l[p.toNat]?.getD 0 = 2 then (if l.length < p.toNat + 7 then (0, 0, 0, 0, 10)
    else if mayB 2 (x3 l (p.toNat + 1) - 1048576) (x3 l (p.toNat + 4) - 1048576) then (2, x3 l (p.toNat + 1) - 1048576, x3 l (p.toNat + 4) - 1048576, p + 7, 0) else (0, 0, 0, 0, 30))
  else (0, 0, 0, 0, 30)

theorem p256_3 : p256 3 = 16777216 := by decide
theorem x3_bd {l : List Int} (hb : Byt l) (a : Nat) : 0 ≤ x3 l a ∧ x3 l a < 16777216 := by
  have h1 := num_nonneg (byt_take (byt_drop hb a) 3)
  have h2 := num_lt (byt_take (byt_drop hb a) 3)
  have h3 := p256_le (show ((l.drop a).take 3).length ≤ 3 by simp; omega)
  rw [p256_3] at h3
  unfold x3
  omega
theorem num_one {l : List Int} {a : Nat} (h : a < l.length) : num ((l.drop a).take 1) = l[a]?.getD 0 := by
  have e : (l.drop a).take 1 = [l[a]] := by rw [List.drop_eq_getElem_cons h]; rfl
  rw [e, List.getElem?_eq_getElem h]
  simp [num]
/-- Get of one, of three bytes. -/
theorem get1 {l : List Int} (hb : Byt l) {a : Nat} (h : a < l.length) : getV l a 1 = l[a]?.getD 0 ∧ getN l a 1 = (a : Int) + 1 ∧ getE l a 1 = 0 := by
  have hn : num ((l.drop (a : Int).toNat).take (1 : Int).toNat) = l[a]?.getD 0 := num_one h
  have hbd : 0 ≤ l[a]?.getD 0 ∧ l[a]?.getD 0 < 256 := by
    rw [List.getElem?_eq_getElem h]; exact hb _ (List.getElem_mem h)
  obtain ⟨e1, e2, e3⟩ := get_ok (l := l) (p := a) (W := 1) (by omega) (by omega) (by omega) (by omega) (by rw [hn]; omega)
  exact ⟨by rw [e2, hn], e3, e1⟩
theorem get3 {l : List Int} (hb : Byt l) {a : Nat} (h : a + 3 ≤ l.length) : getV l a 3 = x3 l a ∧ getN l a 3 = (a : Int) + 3 ∧ getE l a 3 = 0 := by
  have hbd := x3_bd hb a
  have hn : num ((l.drop (a : Int).toNat).take (3 : Int).toNat) = x3 l a := rfl
  obtain ⟨e1, e2, e3⟩ := get_ok (l := l) (p := a) (W := 3) (by omega) (by omega) (by omega) (by omega) (by rw [hn]; omega)
  exact ⟨by rw [e2, hn], e3, e1⟩
theorem get3_short {l : List Int} {a : Nat} (h0 : a ≤ l.length) (h : l.length < a + 3) : getV l a 3 = 0 ∧ getN l a 3 = 0 ∧ getE l a 3 = 10 := by
  have e := get_short (l := l) (p := a) (W := 3) (by omega) (by omega) (by omega) (by omega)
  exact ⟨by rw [getV, e]; rfl, by rw [getN, e]; rfl, e⟩
theorem getE_bad {l : List Int} {p W : Int} {e : Int} (h : getE l p W = e) (he : e ≠ 0) : getV l p W = 0 ∧ getN l p W = 0 ∧ getE l p W = e := by
  have h' : getE l p W ≠ 0 := by rw [h]; exact he
  exact ⟨by rw [getV, if_neg h'], by rw [getN, if_neg h'], h⟩

end Go.Proofs.Ytimjnmkfbdijeaa
namespace Go.Proofs.Ytimjnmkfbdijeaa
open Go.RowKit
set_option linter.unusedSimpArgs false
set_option linter.unusedVariables false

/-- Texts of bytes are the same just if the bytes are. -/
theorem str_eq {L M : List Int} (h1 : Byt L) (h2 : Byt M) : ((strOfNums L).toList == (strOfNums M).toList) = decide (L = M) := by
  rw [Lib.strOfNums_toList, Lib.strOfNums_toList]
  have key : ∀ {L M : List Int}, Byt L → Byt M → L.map (fun n => UInt8.ofNat n.toNat) = M.map (fun n => UInt8.ofNat n.toNat) → L = M := by
    intro L
    induction L with
    | nil => intro M _ _ h; cases M with
      | nil => rfl
      | cons y M => simp at h
    | cons x L ih =>
      intro M h1 h2 h
      cases M with
      | nil => simp at h
      | cons y M =>
        simp only [List.map_cons, List.cons.injEq] at h
        have hx := h1 x (by simp)
        have hy := h2 y (by simp)
        have e : x.toNat = y.toNat := by
          have := congrArg UInt8.toNat h.1
          simp only [UInt8.toNat_ofNat'] at this
          omega
        rw [ih (fun z hz => h1 z (by simp [hz])) (fun z hz => h2 z (by simp [hz])) h.2, show x = y by omega]
  by_cases h : L = M
  · subst h; simp
  · rw [decide_eq_false h]
    simp only [beq_eq_false_iff_ne]
    exact fun e => h (key h1 h2 e)
theorem digs_inj {m n : Int} {W : Nat} (h : digs m W = digs n W) : m % p256 W = n % p256 W := by rw [← num_digs, ← num_digs, h]
theorem byt_valB (k a b : Int) : Byt (valB k a b) := by
  unfold valB
  split
  · intro x hx
    rcases List.mem_cons.1 hx with rfl | hx
    · exact ⟨by decide, by decide⟩
    · exact byt_digs _ _ x hx
  · intro x hx
    rcases List.mem_cons.1 hx with rfl | hx
    · exact ⟨by decide, by decide⟩
    · exact byt_append (byt_digs _ _) (byt_digs _ _) x hx
theorem byt_bytL (k a b : Int) : Byt (bytL k a b) := by
  unfold bytL
  split
  · exact byt_valB _ _ _
  · intro x hx; cases hx
theorem may_cases {k a b : Int} (h : mayB k a b = true) : (k = 1 ∧ b = 0) ∨ (k = 2 ∧ okB a b = true) := by
  by_cases h1 : k = 1
  · subst h1; exact .inl ⟨rfl, by simpa [mayB] using h⟩
  · right; simpa [mayB, h1] using h
theorem valB_1 (a : Int) : valB 1 a 0 = 1 :: digs a 8 := by rw [valB, if_pos rfl]
theorem valB_2 (a b : Int) : valB 2 a b = 2 :: (digs (a + 1048576) 3 ++ digs (b + 1048576) 3) := by rw [valB, if_neg (by decide)]
theorem len_1 (a : Int) : (valB 1 a 0).length = 9 := by simp [valB_1, length_digs]
theorem len_2 (a b : Int) : (valB 2 a b).length = 7 := by simp [valB_2, length_digs]
theorem valB_inj1 {a a' : Int} (h : -9223372036854775808 ≤ a ∧ a ≤ 9223372036854775807) (h' : -9223372036854775808 ≤ a' ∧ a' ≤ 9223372036854775807) : valB 1 a 0 = valB 1 a' 0 ↔ a = a' := by
  refine ⟨fun e => ?_, fun e => by rw [e]⟩
  rw [valB_1, valB_1] at e
  injection e with _ e
  have := digs_inj e
  rw [p256_8] at this
  omega
theorem valB_inj2 {a b a' b' : Int} (h : okB a b = true) (h' : okB a' b' = true) : valB 2 a b = valB 2 a' b' ↔ a = a' ∧ b = b' := by
  refine ⟨fun e => ?_, fun e => by rw [e.1, e.2]⟩
  obtain ⟨⟨h1, h2⟩, h3, h4⟩ := okB_iff.1 h
  obtain ⟨⟨g1, g2⟩, g3, g4⟩ := okB_iff.1 h'
  rw [valB_2, valB_2] at e
  injection e with _ e
  obtain ⟨e1, e2⟩ := List.append_inj e (by simp [length_digs])
  have d1 := digs_inj e1
  have d2 := digs_inj e2
  rw [p256_3] at d1 d2
  omega
theorem bytE_1 (a : Int) : bytE 1 a 0 = 0 ∧ bytL 1 a 0 = valB 1 a 0 ∧ (valB 1 a 0).length = 9 := by
  have h : mayB 1 a 0 = true := by simp [mayB]
  exact ⟨by simp [bytE, h], by simp [bytL, h], len_1 a⟩
theorem bytE_2 {a b : Int} (h : okB a b = true) : bytE 2 a b = 0 ∧ bytL 2 a b = valB 2 a b ∧ (valB 2 a b).length = 7 := by
  have h : mayB 2 a b = true := by simp [mayB, h]
  exact ⟨by simp [bytE, h], by simp [bytL, h], len_2 a b⟩

theorem rdT_err {l : List Int} {p k a b n e : Int} (h : rdT l p = (k, a, b, n, e)) (he : e ≠ 0) : k = 0 ∧ a = 0 ∧ b = 0 ∧ n = 0 := by
  unfold rdT at h
  split at h
  · obtain ⟨rfl, rfl, rfl, rfl, rfl⟩ := by simpa using h
    exact ⟨rfl, rfl, rfl, rfl⟩
  · split at h
    · obtain ⟨rfl, rfl, rfl, rfl, rfl⟩ := by simpa using h
      exact ⟨rfl, rfl, rfl, rfl⟩
    · split at h
      · split at h
        · obtain ⟨rfl, rfl, rfl, rfl, rfl⟩ := by simpa using h
          exact ⟨rfl, rfl, rfl, rfl⟩
        · simp only [Prod.mk.injEq] at h
          exact absurd h.2.2.2.2.symm he
      · split at h
        · split at h
          · obtain ⟨rfl, rfl, rfl, rfl, rfl⟩ := by simpa using h
            exact ⟨rfl, rfl, rfl, rfl⟩
          · split at h
            · simp only [Prod.mk.injEq] at h
              exact absurd h.2.2.2.2.symm he
            · obtain ⟨rfl, rfl, rfl, rfl, rfl⟩ := by simpa using h
              exact ⟨rfl, rfl, rfl, rfl⟩
        · obtain ⟨rfl, rfl, rfl, rfl, rfl⟩ := by simpa using h
          exact ⟨rfl, rfl, rfl, rfl⟩
theorem digs_x3 {l : List Int} (hb : Byt l) {q : Nat} (h : q + 3 ≤ l.length) : digs (x3 l q) 3 = (l.drop q).take 3 := by
  have := digs_num (byt_take (byt_drop hb q) 3)
  rw [show ((l.drop q).take 3).length = 3 by simp; omega] at this
  exact this
theorem digs_wrap (n : Int) : digs (wrap64 n) 8 = digs n 8 := by
  refine digs_congr ?_
  rw [p256_8]
  unfold wrap64
  omega
/-- What was read has just those bytes. -/
theorem rdT_ok {l : List Int} (hb : Byt l) {p k a b n : Int} (h : rdT l p = (k, a, b, n, 0)) : ∃ q m : Nat, p = q ∧ n = q + m ∧ mayB k a b = true ∧ bytL k a b = (l.drop q).take m ∧ (bytL k a b).length = m ∧ q + m ≤ l.length := by
  unfold rdT at h
  split at h
  · simp at h
  · rename_i hp
    split at h
    · simp at h
    · rename_i hp2
      obtain ⟨q, rfl⟩ : ∃ q : Nat, p = q := ⟨p.toNat, by omega⟩
      rw [Int.toNat_natCast] at h
      have hq : q < l.length := by omega
      have hd : l.drop q = l[q]?.getD 0 :: l.drop (q + 1) := by
        rw [List.drop_eq_getElem_cons hq, List.getElem?_eq_getElem hq]; rfl
      split at h
      · rename_i hk
        split at h
        · simp at h
        · rename_i hs
          obtain ⟨rfl, rfl, rfl, rfl⟩ := by simpa using h
          have e : bytL 1 (wrap64 (num ((l.drop (q + 1)).take 8))) 0 = (l.drop q).take 9 := by
            rw [(bytE_1 _).2.1, valB_1, digs_wrap, hd, hk, List.take_succ_cons]
            have := digs_num (byt_take (byt_drop hb (q + 1)) 8)
            rw [show ((l.drop (q + 1)).take 8).length = 8 by simp; omega] at this
            rw [this]
          exact ⟨q, 9, rfl, rfl, by simp [mayB], e, by rw [e]; simp; omega, by omega⟩
      · split at h
        · rename_i hk
          split at h
          · simp at h
          · rename_i hs
            split at h
            · rename_i hm
              obtain ⟨rfl, rfl, rfl, rfl⟩ := by simpa using h
              have e : bytL 2 (x3 l (q + 1) - 1048576) (x3 l (q + 4) - 1048576) = (l.drop q).take 7 := by
                rw [bytL, if_pos hm, valB_2, Int.sub_add_cancel, Int.sub_add_cancel, hd, hk, List.take_succ_cons, digs_x3 hb (by omega), digs_x3 hb (by omega), show (6 : Nat) = 3 + 3 from rfl, List.take_add, List.drop_drop]
              exact ⟨q, 7, rfl, rfl, hm, e, by rw [e]; simp; omega, by omega⟩
            · simp at h
        · simp at h
theorem rdT_at (l1 M l3 : List Int) {k a b n e : Int} (hM : M ≠ []) (h : rdT (M ++ l3) 0 = (k, a, b, n, e)) (h0 : e = 0) : rdT (l1 ++ (M ++ l3)) (l1.length : Int) = (k, a, b, (l1.length : Int) + n, e) := by
  have hl : 0 < M.length := List.length_pos_iff.2 hM
  have key : ∀ j, (l1 ++ (M ++ l3)).drop (l1.length + j) = (M ++ l3).drop j := fun j => by rw [List.drop_append, List.drop_of_length_le (by omega), List.nil_append]; congr 1; omega
  have key2 : (l1 ++ (M ++ l3))[l1.length]? = (M ++ l3)[0]? := by rw [List.getElem?_append_right (Nat.le_refl _), Nat.sub_self]
  subst h0
  unfold rdT x3 at h ⊢
  simp only [Int.toNat_natCast, Int.toNat_zero, key, key2, Nat.zero_add, List.length_append] at h ⊢
  have e1 : ¬ ((0 : Int) < 0 ∨ ((M.length + l3.length : Nat) : Int) < 0) := by omega
  have e2 : ¬ (((M.length + l3.length : Nat) : Int) = 0) := by omega
  have e3 : ¬ ((l1.length : Int) < 0 ∨ ((l1.length + (M.length + l3.length) : Nat) : Int) < l1.length) := by omega
  have e4 : ¬ (((l1.length + (M.length + l3.length) : Nat) : Int) = l1.length) := by omega
  rw [if_neg e1, if_neg e2] at h
  rw [if_neg e3, if_neg e4]
  split at h
  · rename_i hk
    rw [if_pos hk]
    split at h
    · simp at h
    · rename_i hs
      obtain ⟨rfl, rfl, rfl, rfl⟩ := by simpa using h
      rw [if_neg (by omega)]
      simp
  · rename_i hk
    rw [if_neg hk]
    split at h
    · rename_i hk2
      rw [if_pos hk2]
      split at h
      · simp at h
      · rename_i hs
        rw [if_neg (by omega)]
        split at h
        · rename_i hm
          obtain ⟨rfl, rfl, rfl, rfl⟩ := by simpa using h
          rw [if_pos hm]
          simp
        · simp at h
    · simp at h
theorem wrap_mod {a : Int} (h : -9223372036854775808 ≤ a ∧ a ≤ 9223372036854775807) : wrap64 (a % 18446744073709551616) = a := by
  unfold wrap64
  omega
theorem rdT_1 {a : Int} (l3 : List Int) (h : -9223372036854775808 ≤ a ∧ a ≤ 9223372036854775807) : rdT (valB 1 a 0 ++ l3) 0 = (1, a, 0, 9, 0) := by
  have hl : (valB 1 a 0 ++ l3).length = 9 + l3.length := by rw [List.length_append, len_1]
  have h0 : (valB 1 a 0 ++ l3)[(0 : Int).toNat]?.getD 0 = 1 := by rw [valB_1]; rfl
  have h8 : ((valB 1 a 0 ++ l3).drop ((0 : Int).toNat + 1)).take 8 = digs a 8 := by
    rw [valB_1, List.cons_append]
    show ((digs a 8 ++ l3).take 8) = _
    rw [List.take_append_of_le_length (by rw [length_digs]; omega), List.take_of_length_le (by rw [length_digs]; omega)]
  unfold rdT
  rw [if_neg (by rw [hl]; omega), if_neg (by rw [hl]; omega), if_pos h0, if_neg (by rw [hl]; simp), h8, num_digs, p256_8, wrap_mod h]
  rfl
theorem rdT_2 {a b : Int} (l3 : List Int) (h : okB a b = true) : rdT (valB 2 a b ++ l3) 0 = (2, a, b, 7, 0) := by
  obtain ⟨⟨h1, h2⟩, h3, h4⟩ := okB_iff.1 h
  have hl : (valB 2 a b ++ l3).length = 7 + l3.length := by rw [List.length_append, len_2]
  have h0 : (valB 2 a b ++ l3)[(0 : Int).toNat]?.getD 0 = 2 := by rw [valB_2]; rfl
  have e1 : ((valB 2 a b ++ l3).drop 1).take 3 = digs (a + 1048576) 3 := by
    rw [valB_2, List.cons_append]
    show ((digs (a + 1048576) 3 ++ digs (b + 1048576) 3 ++ l3).take 3) = _
    rw [List.append_assoc, List.take_append_of_le_length (by rw [length_digs]; omega), List.take_of_length_le (by rw [length_digs]; omega)]
  have e2 : ((valB 2 a b ++ l3).drop 4).take 3 = digs (b + 1048576) 3 := by
    rw [valB_2, List.cons_append]
    show (((digs (a + 1048576) 3 ++ digs (b + 1048576) 3 ++ l3).drop 3).take 3) = _
    rw [List.append_assoc, List.drop_append, List.drop_of_length_le (by rw [length_digs]; omega), length_digs, List.nil_append]
    show ((digs (b + 1048576) 3 ++ l3).take 3) = _
    rw [List.take_append_of_le_length (by rw [length_digs]; omega), List.take_of_length_le (by rw [length_digs]; omega)]
  have x1 : x3 (valB 2 a b ++ l3) ((0 : Int).toNat + 1) = a + 1048576 := by
    show num (((valB 2 a b ++ l3).drop 1).take 3) = _
    rw [e1, num_digs, p256_3]; omega
  have x2 : x3 (valB 2 a b ++ l3) ((0 : Int).toNat + 4) = b + 1048576 := by
    show num (((valB 2 a b ++ l3).drop 4).take 3) = _
    rw [e2, num_digs, p256_3]; omega
  unfold rdT
  rw [if_neg (by rw [hl]; omega), if_neg (by rw [hl]; omega), if_neg (by rw [h0]; decide), if_pos h0, if_neg (by rw [hl]; simp), x1, x2, Int.add_sub_cancel, Int.add_sub_cancel, if_pos (by simp [mayB, h])]
  rfl
theorem rdT_c1 (a : Int) : rdT ((valB 1 a 0).take 8) 0 = (0, 0, 0, 0, 10) := by
  have hl : ((valB 1 a 0).take 8).length = 8 := by rw [List.length_take, len_1]; rfl
  have h0 : ((valB 1 a 0).take 8)[(0 : Int).toNat]?.getD 0 = 1 := by rw [valB_1]; rfl
  unfold rdT
  rw [if_neg (by rw [hl]; omega), if_neg (by rw [hl]; omega), if_pos h0, if_pos (by rw [hl]; decide)]
theorem rdT_c2 (a b : Int) : rdT ((valB 2 a b).take 6) 0 = (0, 0, 0, 0, 10) := by
  have hl : ((valB 2 a b).take 6).length = 6 := by rw [List.length_take, len_2]; rfl
  have h0 : ((valB 2 a b).take 6)[(0 : Int).toNat]?.getD 0 = 2 := by rw [valB_2]; rfl
  unfold rdT
  rw [if_neg (by rw [hl]; omega), if_neg (by rw [hl]; omega), if_neg (by rw [h0]; decide), if_pos h0, if_pos (by rw [hl]; decide)]

end Go.Proofs.Ytimjnmkfbdijeaa
