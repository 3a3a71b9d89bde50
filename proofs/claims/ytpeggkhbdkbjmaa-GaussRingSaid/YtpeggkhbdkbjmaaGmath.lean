/-
  Plain facts on pairs of whole numbers, for the statements on rings and measures; and what memory holds between the calls of a law: a list of pairs.
-/
import Derived.Test.YtpeggkhbdkbjmaaGawake
namespace Go.Proofs.Ytpeggkhbdkbjmaa
open Go.RowKit

theorem mul_e (a b c d X Y : Int) (v : Bool) (w : World) (h : mulI a b c d = v ∧ gX v (a * c - b * d) = X ∧ gX v (a * d + b * c) = Y) : Calls Try.prog 11 #[.agg #[.int .i64 a, .int .i64 b], .agg #[.int .i64 c, .int .i64 d]] w fun e w' => e = .returned (.tuple #[.agg #[.int .i64 X, .int .i64 Y], .bool v]) ∧ Below w.heap.size w w' := by
  have := mul_v a b c d v w h.1
  rwa [h.2.1, h.2.2] at this
theorem add_e (a b c d X Y : Int) (v : Bool) (w : World) (h : addI a b c d = v ∧ gX v (a + c) = X ∧ gX v (b + d) = Y) : Calls Try.prog 7 #[.agg #[.int .i64 a, .int .i64 b], .agg #[.int .i64 c, .int .i64 d]] w fun e w' => e = .returned (.tuple #[.agg #[.int .i64 X, .int .i64 Y], .bool v]) ∧ Below w.heap.size w w' := by
  have := add_v a b c d v w h.1
  rwa [h.2.1, h.2.2] at this
theorem sub_e (a b c d X Y : Int) (v : Bool) (w : World) (h : subI a b c d = v ∧ gX v (a - c) = X ∧ gX v (b - d) = Y) : Calls Try.prog 9 #[.agg #[.int .i64 a, .int .i64 b], .agg #[.int .i64 c, .int .i64 d]] w fun e w' => e = .returned (.tuple #[.agg #[.int .i64 X, .int .i64 Y], .bool v]) ∧ Below w.heap.size w w' := by
  have := sub_v a b c d v w h.1
  rwa [h.2.1, h.2.2] at this
theorem conj_e (a b X Y : Int) (v : Bool) (w : World) (h : (okB a b = v ∧ gX v a = X ∧ gX v (-b) = Y) ∧ -9223372036854775808 ≤ b ∧ b ≤ 9223372036854775807) : Calls Try.prog 13 #[.agg #[.int .i64 a, .int .i64 b]] w fun e w' => e = .returned (.tuple #[.agg #[.int .i64 X, .int .i64 Y], .bool v]) ∧ Below w.heap.size w w' := by
  have := conj_v a b v w h.1.1 h.2
  rwa [h.1.2.1, h.1.2.2] at this
theorem measure_e (a b m : Int) (w : World) (h : meas a b = m) : Calls Try.prog 17 #[.agg #[.int .i64 a, .int .i64 b]] w fun e w' => e = .returned (.int .i64 m) ∧ Below w.heap.size w w' := by
  have := measure_any a b w
  rwa [h] at this

/-- The pairs that memory holds, the newest first; below w0's heap nothing has changed. -/
def Prs (w : World) : List (Nat × Int × Int) → Prop
  | [] => True
  | (B, x, y) :: L => Pr w B x y ∧ Prs w L
def St (w0 w : World) (L : List (Nat × Int × Int)) : Prop := Below w0.heap.size w0 w ∧ Prs w L
theorem Prs.keep {w w' : World} {L : List (Nat × Int × Int)} (h : Prs w L) (hb : Below w.heap.size w w') : Prs w' L := by
  induction L with
  | nil => trivial
  | cons e L ih => obtain ⟨B, x, y⟩ := e; exact ⟨h.1.keep hb, ih h.2⟩
theorem St.call {w0 w w' : World} {L : List (Nat × Int × Int)} (h : St w0 w L) (hb : Below w.heap.size w w') : St w0 w' L := ⟨below_on h.1 hb, h.2.keep hb⟩
theorem St.new {w0 w w' : World} {L : List (Nat × Int × Int)} (h : St w0 w L) {x y : Int} (hb : Below (w.alloc (.cells #[.int .i64 x, .int .i64 y] 23)).heap.size (w.alloc (.cells #[.int .i64 x, .int .i64 y] 23)) w') : St w0 w' ((w.heap.size, x, y) :: L) :=
  ⟨below_on h.1 (below1 hb), (Pr.new w x y).keep hb, (h.2.keep new1).keep hb⟩
theorem St.mk {w0 w : World} {L : List (Nat × Int × Int)} (h : St w0 w L) (x y : Int) : St w0 (w.alloc (.cells #[.int .i64 x, .int .i64 y] 23)) ((w.heap.size, x, y) :: L) := h.new (Below.refl _ _)
theorem St.drewN {w0 w : World} {L : List (Nat × Int × Int)} (h : St w0 w L) (q : Nat) : St w0 (w.drewN q) L := by
  refine ⟨⟨h.1.os, h.1.tape, h.1.output, h.1.size, h.1.block⟩, ?_⟩
  have h2 := h.2
  clear h
  induction L with
  | nil => trivial
  | cons e L ih => obtain ⟨B, x, y⟩ := e; exact ⟨h2.1, ih h2.2⟩

theorem Hst.call {w0 w1 w2 : World} {L : List (Nat × Int × Int)} (hb : Below w1.heap.size w1 w2) (h : Hid (St w0 w1 L)) : Hid (St w0 w2 L) := Lib.hid (h.out.call hb)
theorem Hst.drew {w0 w1 : World} {L : List (Nat × Int × Int)} (h : Hid (St w0 w1 L)) : Hid (St w0 w1.drew L) := Lib.hid (h.out.drewN 1)
/-! The cells of pairs, for a region that loads beside calls. -/
theorem cells3 {w0 w : World} {B1 B2 B3 : Nat} {x1 y1 x2 y2 x3 y3 : Int} (h : Hid (St w0 w [(B1, x1, y1), (B2, x2, y2), (B3, x3, y3)])) : w.cell? ⟨B1, 0, none⟩ = some (.int .i64 x1) ∧ w.cell? ⟨B1, 1, none⟩ = some (.int .i64 y1) ∧ w.cell? ⟨B2, 0, none⟩ = some (.int .i64 x2) ∧ w.cell? ⟨B2, 1, none⟩ = some (.int .i64 y2) ∧ w.cell? ⟨B3, 0, none⟩ = some (.int .i64 x3) ∧ w.cell? ⟨B3, 1, none⟩ = some (.int .i64 y3) ∧ Hid (St w0 w [(B1, x1, y1), (B2, x2, y2), (B3, x3, y3)]) := by
  obtain ⟨_, h1, h2, h3, _⟩ := h.out
  exact ⟨h1.2.1, h1.2.2.1, h2.2.1, h2.2.2.1, h3.2.1, h3.2.2.1, h⟩
theorem cells3_on {w0 w1 w2 : World} {B1 B2 B3 : Nat} {x1 y1 x2 y2 x3 y3 : Int} (hb : Below w1.heap.size w1 w2) (h : w1.cell? ⟨B1, 0, none⟩ = some (.int .i64 x1) ∧ w1.cell? ⟨B1, 1, none⟩ = some (.int .i64 y1) ∧ w1.cell? ⟨B2, 0, none⟩ = some (.int .i64 x2) ∧ w1.cell? ⟨B2, 1, none⟩ = some (.int .i64 y2) ∧ w1.cell? ⟨B3, 0, none⟩ = some (.int .i64 x3) ∧ w1.cell? ⟨B3, 1, none⟩ = some (.int .i64 y3) ∧ Hid (St w0 w1 [(B1, x1, y1), (B2, x2, y2), (B3, x3, y3)])) : w2.cell? ⟨B1, 0, none⟩ = some (.int .i64 x1) ∧ w2.cell? ⟨B1, 1, none⟩ = some (.int .i64 y1) ∧ w2.cell? ⟨B2, 0, none⟩ = some (.int .i64 x2) ∧ w2.cell? ⟨B2, 1, none⟩ = some (.int .i64 y2) ∧ w2.cell? ⟨B3, 0, none⟩ = some (.int .i64 x3) ∧ w2.cell? ⟨B3, 1, none⟩ = some (.int .i64 y3) ∧ Hid (St w0 w2 [(B1, x1, y1), (B2, x2, y2), (B3, x3, y3)]) := cells3 (Hst.call hb h.2.2.2.2.2.2)
theorem cells3_st {w0 w1 : World} {B1 B2 B3 : Nat} {x1 y1 x2 y2 x3 y3 : Int} (h : w1.cell? ⟨B1, 0, none⟩ = some (.int .i64 x1) ∧ w1.cell? ⟨B1, 1, none⟩ = some (.int .i64 y1) ∧ w1.cell? ⟨B2, 0, none⟩ = some (.int .i64 x2) ∧ w1.cell? ⟨B2, 1, none⟩ = some (.int .i64 y2) ∧ w1.cell? ⟨B3, 0, none⟩ = some (.int .i64 x3) ∧ w1.cell? ⟨B3, 1, none⟩ = some (.int .i64 y3) ∧ Hid (St w0 w1 [(B1, x1, y1), (B2, x2, y2), (B3, x3, y3)])) : Hid (St w0 w1 [(B1, x1, y1), (B2, x2, y2), (B3, x3, y3)]) := h.2.2.2.2.2.2

theorem cells6 {w0 w : World} {B1 B2 B3 B4 B5 B6 : Nat} {x1 y1 x2 y2 x3 y3 x4 y4 x5 y5 x6 y6 : Int} (h : Hid (St w0 w [(B1, x1, y1), (B2, x2, y2), (B3, x3, y3), (B4, x4, y4), (B5, x5, y5), (B6, x6, y6)])) : w.cell? ⟨B1, 0, none⟩ = some (.int .i64 x1) ∧ w.cell? ⟨B1, 1, none⟩ = some (.int .i64 y1) ∧ w.cell? ⟨B6, 0, none⟩ = some (.int .i64 x6) ∧ w.cell? ⟨B6, 1, none⟩ = some (.int .i64 y6) ∧ Hid (St w0 w [(B1, x1, y1), (B2, x2, y2), (B3, x3, y3), (B4, x4, y4), (B5, x5, y5), (B6, x6, y6)]) := by
  obtain ⟨_, h1, _, _, _, _, h6, _⟩ := h.out
  exact ⟨h1.2.1, h1.2.2.1, h6.2.1, h6.2.2.1, h⟩
theorem cells6_on {w0 w1 w2 : World} {B1 B2 B3 B4 B5 B6 : Nat} {x1 y1 x2 y2 x3 y3 x4 y4 x5 y5 x6 y6 : Int} (hb : Below w1.heap.size w1 w2) (h : w1.cell? ⟨B1, 0, none⟩ = some (.int .i64 x1) ∧ w1.cell? ⟨B1, 1, none⟩ = some (.int .i64 y1) ∧ w1.cell? ⟨B6, 0, none⟩ = some (.int .i64 x6) ∧ w1.cell? ⟨B6, 1, none⟩ = some (.int .i64 y6) ∧ Hid (St w0 w1 [(B1, x1, y1), (B2, x2, y2), (B3, x3, y3), (B4, x4, y4), (B5, x5, y5), (B6, x6, y6)])) : w2.cell? ⟨B1, 0, none⟩ = some (.int .i64 x1) ∧ w2.cell? ⟨B1, 1, none⟩ = some (.int .i64 y1) ∧ w2.cell? ⟨B6, 0, none⟩ = some (.int .i64 x6) ∧ w2.cell? ⟨B6, 1, none⟩ = some (.int .i64 y6) ∧ Hid (St w0 w2 [(B1, x1, y1), (B2, x2, y2), (B3, x3, y3), (B4, x4, y4), (B5, x5, y5), (B6, x6, y6)]) := cells6 (Hst.call hb h.2.2.2.2)
theorem cells6_st {w0 w1 : World} {B1 B2 B3 B4 B5 B6 : Nat} {x1 y1 x2 y2 x3 y3 x4 y4 x5 y5 x6 y6 : Int} (h : w1.cell? ⟨B1, 0, none⟩ = some (.int .i64 x1) ∧ w1.cell? ⟨B1, 1, none⟩ = some (.int .i64 y1) ∧ w1.cell? ⟨B6, 0, none⟩ = some (.int .i64 x6) ∧ w1.cell? ⟨B6, 1, none⟩ = some (.int .i64 y6) ∧ Hid (St w0 w1 [(B1, x1, y1), (B2, x2, y2), (B3, x3, y3), (B4, x4, y4), (B5, x5, y5), (B6, x6, y6)])) : Hid (St w0 w1 [(B1, x1, y1), (B2, x2, y2), (B3, x3, y3), (B4, x4, y4), (B5, x5, y5), (B6, x6, y6)]) := h.2.2.2.2
theorem gX_t (x : Int) : gX true x = x := rfl
theorem gX_f (x : Int) : gX false x = 0 := rfl
theorem meas_t {a b : Int} (h : okB a b = true) : meas a b = a * a + b * b := by simp [meas, h]
theorem meas_f {a b : Int} (h : okB a b = false) : meas a b = -1 := by simp [meas, h]
theorem mulI_iff {a b c d : Int} : mulI a b c d = true ↔ okB a b = true ∧ okB c d = true ∧ okB (a * c - b * d) (a * d + b * c) = true := by simp [mulI, and_assoc]
theorem addI_iff {a b c d : Int} : addI a b c d = true ↔ okB a b = true ∧ okB c d = true ∧ okB (a + c) (b + d) = true := by simp [addI, and_assoc]
theorem subI_iff {a b c d : Int} : subI a b c d = true ↔ okB a b = true ∧ okB c d = true ∧ okB (a - c) (b - d) = true := by simp [subI, and_assoc]
theorem brahma (a b c d : Int) : (a * a + b * b) * (c * c + d * d) = (a * c - b * d) * (a * c - b * d) + (a * d + b * c) * (a * d + b * c) := by grind
theorem meas_mul {a b c d : Int} (h : mulI a b c d = true) : IntKind.i64.wrap (meas a b * meas c d) = meas (a * c - b * d) (a * d + b * c) := by
  obtain ⟨h1, h2, h3⟩ := mulI_iff.1 h
  rw [meas_t h1, meas_t h2, meas_t h3, brahma]
  obtain ⟨k1, k2⟩ := okB_iff.1 h3
  have e1 := sq_le k1
  have e2 := sq_le k2
  exact IntWalk.i64_in _ (by omega)
theorem meas_sign (a b : Int) : decide (meas a b < 0) = !okB a b := by
  cases h : okB a b with
  | true =>
    rw [meas_t h]
    obtain ⟨k1, k2⟩ := okB_iff.1 h
    have e1 := sq_le k1
    have e2 := sq_le k2
    simp; omega
  | false => rw [meas_f h]; decide
theorem own_mul {a b : Int} (h : okB a b = true) : a * a - b * (-b) = meas a b ∧ a * (-b) + b * a = 0 := by
  rw [meas_t h]
  constructor <;> grind
theorem conj_mul (a b c d : Int) : a * c - (-b) * (-d) = a * c - b * d ∧ a * (-d) + (-b) * c = -(a * d + b * c) := by
  constructor <;> grind
theorem mulI_conj (a b c d : Int) : mulI a (-b) c (-d) = mulI a b c d := by
  unfold mulI
  rw [(conj_mul a b c d).1, (conj_mul a b c d).2, neg_ok, neg_ok, neg_ok]
end Go.Proofs.Ytpeggkhbdkbjmaa
