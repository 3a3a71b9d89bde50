/-
  Op, Opn, Opm: in one text.
-/
import Derived.Test.YtimjnmkfbdijeaaLd
import Derived.Lib.Bytes
namespace Go.Proofs.Ytimjnmkfbdijeaa
open Go.RowKit
set_option linter.unusedSimpArgs false
set_option linter.unusedVariables false

/-- Whether it is an opcode; whether its operand leads elsewhere; whether it goes on; the least and the greatest operand. -/
def opK (n : Int) : Bool := decide (n < 33)
def opL (n : Int) : Bool := n == 26 || n == 27 || n == 29
def opG (n : Int) : Bool := opK n && n != 26 && n != 31 && n != 32
def opLo (n : Int) : Int := if n = 28 then 1 else 0
def opHi (n : Int) : Int :=
  if n = 1 then 31 else if n = 2 ∨ n = 3 ∨ n = 30 then 15 else if n = 4 ∨ n = 5 then 3 else if n = 22 then 1024 else if n = 26 ∨ n = 27 ∨ n = 29 then 199 else if n = 28 then 100 else if n = 32 then 255 else if n < 33 then 0 else -1
/-- Whether an instruction may be. -/
def opM (n a b : Int) : Bool := decide (opLo n ≤ a) && decide (a ≤ opHi n) && b == 0
end Go.Proofs.Ytimjnmkfbdijeaa
namespace Go.Proofs.Ytimjnmkfbdijeaa
open Go.RowKit
set_option linter.unusedSimpArgs false
set_option linter.unusedVariables false

def opNm : List (List UInt8) := [[110, 111, 112], [99, 111, 110, 115, 116], [103, 101, 116], [115, 101, 116], [108, 111, 97, 100], [115, 116, 111, 114, 101], [112, 111, 112], [100, 117, 112], [115, 119, 97, 112], [97, 100, 100], [115, 117, 98], [109, 117, 108], [100, 105, 118], [114, 101, 109], [108, 101, 115, 115], [115, 97, 109, 101], [112, 97, 105, 114], [114, 101], [105, 109], [112, 97, 100, 100], [112, 109, 117, 108], [99, 111, 110, 106], [110, 101, 119], [97, 116], [112, 117, 116], [108, 101, 110], [106, 117, 109, 112], [122, 101, 114, 111], [108, 111, 111, 112], [97, 103, 97, 105, 110], [99, 97, 108, 108], [114, 101, 116], [116, 114, 97, 112]]
/-- The name of an opcode; none's is empty. -/
def opS (n : Int) : ByteArray := if 0 ≤ n ∧ n < 33 then ⟨(opNm.getD n.toNat []).toArray⟩ else ⟨#[]⟩
theorem opS_none {n : Int} (h : ¬ n < 33) : opS n = ⟨#[]⟩ := by rw [opS, if_neg (by omega)]

end Go.Proofs.Ytimjnmkfbdijeaa
namespace Go.Proofs.Ytimjnmkfbdijeaa
open Go.RowKit
set_option linter.unusedSimpArgs false
set_option linter.unusedVariables false

/-- An instruction lies at block B. -/
def In (w : World) (B : Nat) (k a b : Int) : Prop := B < w.heap.size ∧ w.cell? ⟨B, 0, none⟩ = some (.int .u8 k) ∧ w.cell? ⟨B, 1, none⟩ = some (.int .i64 a) ∧ w.cell? ⟨B, 2, none⟩ = some (.int .i64 b) ∧
  w.frozen? ⟨B, 0, none⟩ = false ∧ w.frozen? ⟨B, 1, none⟩ = false ∧ w.frozen? ⟨B, 2, none⟩ = false
theorem In.keep {w w' : World} {B : Nat} {k a b : Int} (h : In w B k a b) (hb : Below w.heap.size w w') : In w' B k a b := by
  obtain ⟨h1, h2, h3, h4, h5, h6, h7⟩ := h
  obtain ⟨hc, hf⟩ := bcell hb
  exact ⟨Nat.lt_of_lt_of_le h1 hb.size, (hc _ _ h1).trans h2, (hc _ _ h1).trans h3, (hc _ _ h1).trans h4, (hf _ _ h1).trans h5, (hf _ _ h1).trans h6, (hf _ _ h1).trans h7⟩
theorem In.new (w : World) (k a b : Int) : In (w.alloc (.cells #[.int .u8 k, .int .i64 a, .int .i64 b] 57)) w.heap.size k a b := by
  refine ⟨by simp, ?_, ?_, ?_, ?_, ?_, ?_⟩ <;> simp [go_sem]
theorem In.set1 {w : World} {B : Nat} {k a b : Int} (h : In w B k a b) (a' : Int) : In (w.setCell ⟨B, 1, none⟩ (.int .i64 a')) B k a' b := by
  obtain ⟨h1, h2, h3, h4, h5, h6, h7⟩ := h
  refine ⟨by simpa using h1, ?_, ?_, ?_, ?_, ?_, ?_⟩ <;> simp [go_sem, h2, h3, h4, h5, h6, h7]
theorem In.set2 {w : World} {B : Nat} {k a b : Int} (h : In w B k a b) (b' : Int) : In (w.setCell ⟨B, 2, none⟩ (.int .i64 b')) B k a b' := by
  obtain ⟨h1, h2, h3, h4, h5, h6, h7⟩ := h
  refine ⟨by simpa using h1, ?_, ?_, ?_, ?_, ?_, ?_⟩ <;> simp [go_sem, h2, h3, h4, h5, h6, h7]
abbrev fI (B : Nat) (k a b : Int) : Fct := ⟨fun w => In w B k a b, fun _ _ h hb => h.keep hb⟩

end Go.Proofs.Ytimjnmkfbdijeaa
