/-
  Layer 4, package op: the names of the opcodes, as the program's own table reads; what Name and Parse answer, for every opcode and every text; the reference's too.
-/
import Derived.Test.YthmfjdafmnmgiaaDoorOp
import Derived.Lib.Bytes
namespace Go.Proofs.YthmfjdafmnmgiaaDoor
open Go.RowKit
set_option linter.unusedSimpArgs false
set_option linter.unusedVariables false

def opNm : List (List UInt8) := [[110, 111, 112], [99, 111, 110, 115, 116], [103, 101, 116], [115, 101, 116], [108, 111, 97, 100], [115, 116, 111, 114, 101], [112, 111, 112], [100, 117, 112], [115, 119, 97, 112], [97, 100, 100], [115, 117, 98], [109, 117, 108], [100, 105, 118], [114, 101, 109], [108, 101, 115, 115], [115, 97, 109, 101], [112, 97, 105, 114], [114, 101], [105, 109], [112, 97, 100, 100], [112, 109, 117, 108], [99, 111, 110, 106], [110, 101, 119], [97, 116], [112, 117, 116], [108, 101, 110], [106, 117, 109, 112], [122, 101, 114, 111], [108, 111, 111, 112], [97, 103, 97, 105, 110], [99, 97, 108, 108], [114, 101, 116], [116, 114, 97, 112]]
/-- The name of an opcode; none's is empty. -/
def opS (n : Int) : ByteArray := if 0 ≤ n ∧ n < 33 then ⟨(opNm.getD n.toNat []).toArray⟩ else ⟨#[]⟩
/-- The table of names, as the program's text lays it. -/
def GN (w : World) : Prop := ∀ (i : Nat) (L : List UInt8), opNm[i]? = some L → w.cell? ⟨0, i, none⟩ = some (.string ⟨L.toArray⟩)
theorem GN.keep {w w' : World} (h : GN w) (hb : Below w.heap.size w w') : GN w' := fun i L hi => (hb.cell (cell_lt (h i L hi))).trans (h i L hi)
abbrev fN : Fct := ⟨GN, fun _ _ h hb => h.keep hb⟩
theorem GN.at_ {w : World} (h : GN w) (j : Nat) (hj : j < 33) : w.cell? ⟨0, j, none⟩ = some (.string (opS j)) := by
  have hl : opNm.length = 33 := rfl
  have h1 := h j (opNm.getD j []) (by rw [List.getD_eq_getElem?_getD, List.getElem?_eq_getElem (by omega)]; rfl)
  rw [h1, opS, if_pos (by omega)]
  rfl
theorem opS_none {n : Int} (h : ¬ n < 33) : opS n = ⟨#[]⟩ := by rw [opS, if_neg (by omega)]

set_option maxRecDepth 100000 in
set_option maxHeartbeats 4000000 in
theorem r4name_any (n : Int) (w : World) : Calls Tryd.prog 26 #[.int .u8 n] w fun e w' => e = .returned (.string (opS n)) ∧ w = w' := by
  go_enter Tryd.func26, Tryd.ntmps26
  go_wp2_with fail
  all_goals go_ret
  all_goals first | (rename_i h; obtain rfl := eq_of_beq h; exact ⟨rfl, rfl⟩) | (refine ⟨?_, rfl⟩; simp only [beq_eq_false_iff_ne, ne_eq] at *; rw [opS, if_neg (by omega)]; rfl)
theorem name_t (j : Nat) (s : ByteArray) (w : World) (hj : j < 33) (hw : w.cell? ⟨0, j, none⟩ = some (.string s)) : Calls Tryd.prog 41 #[.int .u8 j] w fun e w' => e = .returned (.string s) ∧ w = w' := by
  have hk : opK j = true := by simp [opK]; omega
  go_enter Tryd.func41, Tryd.ntmps41
  go_wp2_with fail
  refine (known_any _ _).mono ?_
  rintro e w1 ⟨rfl, rfl⟩
  go_wp2_with fail
  go_ret
  exact ⟨rfl, rfl⟩
theorem name_f (n : Int) (w : World) (hk : opK n = false) : Calls Tryd.prog 41 #[.int .u8 n] w fun e w' => e = .returned (.string ⟨#[]⟩) ∧ w = w' := by
  go_enter Tryd.func41, Tryd.ntmps41
  go_wp2_with fail
  refine (known_any _ _).mono ?_
  rintro e w1 ⟨rfl, rfl⟩
  go_wp2_with fail
  go_ret
  exact ⟨rfl, rfl⟩
theorem name_any (n : Int) (w : World) (hn : 0 ≤ n) (hw : GN w) : Calls Tryd.prog 41 #[.int .u8 n] w fun e w' => e = .returned (.string (opS n)) ∧ w = w' := by
  by_cases h : n < 33
  · obtain ⟨j, rfl⟩ : ∃ j : Nat, n = j := ⟨n.toNat, by omega⟩
    exact name_t j _ w (by omega) (hw.at_ j (by omega))
  · rw [opS_none h]
    exact name_f n w (by simp [opK]; omega)
theorem prs_t (s : ByteArray) (w : World) (hw : GN w) (k : Nat) (hk : k < 33) (hne : ∀ j : Nat, j < k → ((opS j).toList == s.toList) = false) (he : ((opS k).toList == s.toList) = true) : Calls Tryd.prog 49 #[.string s] w fun e w' => e = .returned (.tuple #[.int .u8 k, .bool true]) ∧ w = w' := by
  go_enter Tryd.func49, Tryd.ntmps49
  go_wp2_with fail
  go_loop [5] (fun i => ∃ j : Nat, j ≤ k ∧ i = .int .u8 j) (fun i => (33 - intOf i).toNat)
  case atStart => exact ⟨0, by omega, rfl⟩
  case round =>
    obtain ⟨j, hj, rfl⟩ := hrel
    by_cases h1 : j < k
    · have h2 := hne j h1
      have hc := hw.at_ j (by omega)
      go_wp2_with fail
      go_round
      case rel => exact ⟨j + 1, by omega, by simp⟩
      case measure => simp [intOf]; omega
    · obtain rfl : j = k := by omega
      have hc := hw.at_ j (by omega)
      go_wp2_with fail
      go_ret2
      exact ⟨rfl, rfl⟩
theorem prs_f (s : ByteArray) (w : World) (hw : GN w) (hne : ∀ j : Nat, j < 33 → ((opS j).toList == s.toList) = false) : Calls Tryd.prog 49 #[.string s] w fun e w' => e = .returned (.tuple #[.int .u8 0, .bool false]) ∧ w = w' := by
  go_enter Tryd.func49, Tryd.ntmps49
  go_wp2_with fail
  go_loop [5] (fun i => ∃ j : Nat, j ≤ 33 ∧ i = .int .u8 j) (fun i => (33 - intOf i).toNat)
  case atStart => exact ⟨0, by omega, rfl⟩
  case round =>
    obtain ⟨j, hj, rfl⟩ := hrel
    by_cases h1 : j < 33
    · have h2 := hne j h1
      have hc := hw.at_ j (by omega)
      go_wp2_with fail
      go_round
      case rel => exact ⟨j + 1, by omega, by simp⟩
      case measure => simp [intOf]; omega
    · obtain rfl : j = 33 := by omega
      go_wp2_with fail
      go_ret2
      exact ⟨rfl, rfl⟩
theorem r4prs_t (s : ByteArray) (w : World) (k : Nat) (hk : k < 33) (hne : ∀ j : Nat, j < k → ((opS j).toList == s.toList) = false) (he : ((opS k).toList == s.toList) = true) : Calls Tryd.prog 51 #[.string s] w fun e w' => e = .returned (.tuple #[.int .u8 k, .bool true]) ∧ w = w' := by
  go_enter Tryd.func51, Tryd.ntmps51
  go_wp2_with fail
  go_loop [4] (fun i => ∃ j : Nat, j ≤ k ∧ i = .int .u8 j) (fun i => (33 - intOf i).toNat)
  case atStart => exact ⟨0, by omega, rfl⟩
  case round =>
    obtain ⟨j, hj, rfl⟩ := hrel
    by_cases h1 : j < k
    · have h2 := hne j h1
      go_wp2_with fail
      refine (r4name_any _ _).mono ?_
      rintro e w1 ⟨rfl, rfl⟩
      go_wp2_with fail
      go_round
      case rel => exact ⟨j + 1, by omega, by simp⟩
      case measure => simp [intOf]; omega
    · obtain rfl : j = k := by omega
      go_wp2_with fail
      refine (r4name_any _ _).mono ?_
      rintro e w1 ⟨rfl, rfl⟩
      go_wp2_with fail
      go_ret2
      exact ⟨rfl, rfl⟩
theorem r4prs_f (s : ByteArray) (w : World) (hne : ∀ j : Nat, j < 33 → ((opS j).toList == s.toList) = false) : Calls Tryd.prog 51 #[.string s] w fun e w' => e = .returned (.tuple #[.int .u8 0, .bool false]) ∧ w = w' := by
  go_enter Tryd.func51, Tryd.ntmps51
  go_wp2_with fail
  go_loop [4] (fun i => ∃ j : Nat, j ≤ 33 ∧ i = .int .u8 j) (fun i => (33 - intOf i).toNat)
  case atStart => exact ⟨0, by omega, rfl⟩
  case round =>
    obtain ⟨j, hj, rfl⟩ := hrel
    by_cases h1 : j < 33
    · have h2 := hne j h1
      go_wp2_with fail
      refine (r4name_any _ _).mono ?_
      rintro e w1 ⟨rfl, rfl⟩
      go_wp2_with fail
      go_round
      case rel => exact ⟨j + 1, by omega, by simp⟩
      case measure => simp [intOf]; omega
    · obtain rfl : j = 33 := by omega
      go_wp2_with fail
      go_ret2
      exact ⟨rfl, rfl⟩
end Go.Proofs.YthmfjdafmnmgiaaDoor
