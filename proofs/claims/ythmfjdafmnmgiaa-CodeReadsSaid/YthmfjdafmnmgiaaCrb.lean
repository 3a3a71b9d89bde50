/-
  The bytes of code, by definition; what the reference's Bytes answers.
-/
import Derived.Test.YthmfjdafmnmgiaaIns2
namespace Go.Proofs.Ythmfjdafmnmgiaa
open Go.RowKit
set_option linter.unusedSimpArgs false
set_option linter.unusedVariables false

/-- An instruction's bytes; code's. -/
def opr (x : Ins) : List Int := x.1 :: (if wdB x.1 then [x.2.1 % 256, x.2.1 / 256] else [])
def codB (L : List Ins) : List Int := (L.length : Int) :: L.flatMap opr
theorem Ri.c1 {w : World} {ad : Addr} {c i : Nat} {L : List Ins} (h : Ri w (some ad) c L) (hi : i < L.length) : w.cell? ⟨(ad.add (i * 3)).block, (ad.add (i * 3)).off + 1, none⟩ = some (.int .i64 (L[i]).2.1) := by
  obtain ⟨ad', e, _, h1, _⟩ := h.at_ hi
  injection e with e
  subst e
  exact h1
theorem wr_lo {x : Int} (h : 0 ≤ x) : IntKind.u8.wrap (x.tmod 256) = x % 256 := by
  rw [Int.tmod_eq_emod_of_nonneg h]
  simp [IntKind.wrap, IntKind.signed, IntKind.bits, go_sem]
theorem wr_hi {x : Int} (h : 0 ≤ x) (h2 : x ≤ 1024) : IntKind.u8.wrap (IntKind.i64.wrap (x.tdiv 256)) = x / 256 := by
  rw [Int.tdiv_eq_ediv_of_nonneg h]
  simp [IntKind.wrap, IntKind.signed, IntKind.bits, go_sem]
  omega
theorem Sx.ri {w w' : World} {A : Option Addr} {c : Nat} {L : List Ins} (h : Ri w A c L) (hb : Below w.heap.size w w') : Sx w w' [fT A c L] := ⟨hb, h.keep hb, trivial⟩
theorem opM_bd {x : Ins} (h : inM x = true) : 0 ≤ x.2.1 ∧ x.2.1 ≤ 1024 ∧ x.1 < 33 := by
  have h' : opM x.1 x.2.1 x.2.2 = true := h
  simp only [opM, Bool.and_eq_true, decide_eq_true_eq] at h'
  obtain ⟨⟨h1, h2⟩, _⟩ := h'
  have a1 : 0 ≤ opLo x.1 := by unfold opLo; split <;> omega
  have a2 : opHi x.1 ≤ 1024 ∧ (¬ x.1 < 33 → opHi x.1 = -1) := by unfold opHi; repeat' split
                                                                 all_goals omega
  by_cases h3 : x.1 < 33
  · omega
  · have := a2.2 h3; omega
end Go.Proofs.Ythmfjdafmnmgiaa
