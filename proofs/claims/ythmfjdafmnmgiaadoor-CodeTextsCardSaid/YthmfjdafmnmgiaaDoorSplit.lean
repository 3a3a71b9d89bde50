/-
  What octet.split does, at each of its instances: the new slice holds the low bytes of the number, least first; nothing that was there has changed.
-/
import Derived.Test.YthmfjdafmnmgiaaDoorKit
namespace Go.Proofs.YthmfjdafmnmgiaaDoor
open Go.RowKit

theorem split_rel (n : Int) (k W : Nat) (h : k < W) : (((digs n k ++ List.replicate (W - k) 0).map (Value.int .u8)).set k (.int .u8 (sh n k % 256))) = (digs n (k + 1) ++ List.replicate (W - (k + 1)) 0).map (Value.int .u8) := by
  obtain ⟨m, rfl⟩ : ∃ m, W = k + 1 + m := ⟨W - (k + 1), by omega⟩
  rw [digs_snoc]
  have e1 : k + 1 + m - k = m + 1 := by omega
  have e2 : k + 1 + m - (k + 1) = m := by omega
  rw [e1, e2, List.replicate_succ]
  simp only [List.map_append, List.map_cons, List.append_assoc, List.singleton_append]
  rw [List.set_append_right _ _ (by simp [length_digs])]
  simp [length_digs]

set_option maxHeartbeats 400000 in
theorem split_int (n : Int) (W : Nat) (w : World) (hW : W ≤ 8) :
    Calls Tryd.prog 60 #[.int .i64 n, .int .i64 W] w fun e w' => e = .returned (.slice (some ⟨w.heap.size, 0, none⟩) W W) ∧
      w'.ownsRow w.heap.size 5 1 (.slice (some ⟨w.heap.size, 0, none⟩) W W) W ((digs n W).map (Value.int .u8)) ∧ Below w.heap.size w w' := by
  obtain ⟨i0, hi, hz0, hz1, hz2⟩ := info_parts Tryd.info5
  go_enter Tryd.func60, Tryd.ntmps60
  go_wp2_with (at_make; refine wpList_make_full _ rfl _ _ 24 rfl w.heap.size 5 i0 (.int .u8 0) 1 Tryd.underlying24 hi hz0 hz1 _ _ _ _ W rfl rfl rfl rfl ?b2 ?b3 (Nat.le_refl _) ?_)
  case b2 => rw [hz2]; omega
  case b3 => unfold maxLen; omega
  intro w0 hown0 hgrow0
  go_wp2
  have hrep : (madeCells #[Value.int .u8 0] W).toList = (List.replicate W 0).map (Value.int .u8) := by
    simp [toList_madeCells_one]
  rw [hrep] at hown0
  clear hrep
  go_loopw [0, 11] (fun x i wr => ∃ k : Nat, k ≤ W ∧ i = .int .i64 k ∧ x = .int .i64 (sh n k) ∧
      wr.ownsRow w.heap.size 5 1 (.slice (some ⟨w.heap.size, 0, none⟩) W W) W ((digs n k ++ List.replicate (W - k) 0).map (Value.int .u8)) ∧ Below w.heap.size w wr)
    (fun _ i _ => W - (intOf i).toNat)
  case atStart => exact ⟨0, Nat.zero_le _, rfl, rfl, by simpa [digs] using hown0, (Below.refl _ _).grown hgrow0 (Nat.le_refl _) (fun k h => by cases h)⟩
  case round =>
    obtain ⟨k, hk, rfl, rfl, hown, hnx⟩ := hrel
    by_cases hlt : k < W
    · have hfz := hown.frozenAt k
      have hcell := hown.cellAt k (by omega)
      obtain ⟨z, hz⟩ : ∃ z, ((digs n k ++ List.replicate (W - k) 0).map (Value.int .u8))[k]? = some z := ⟨_, List.getElem?_eq_getElem (by simp [length_digs]; omega)⟩
      rw [hz] at hcell
      have hst := hown.stored k (.int .u8 (sh n k % 256))
      rw [split_rel n k W hlt] at hst
      clear hz
      have HST := Lib.hid hst
      clear hst hown
      go_wp2
      go_roundw
      case rel => exact ⟨k + 1, by omega, by go_num, by simp [sh], HST.out.1, hnx.setCell (Nat.le_refl _) _⟩
      case measure => simp [intOf]; omega
    · obtain rfl : k = W := by omega
      go_wp2
      go_ret
      exact ⟨rfl, by simpa using hown, hnx⟩
end Go.Proofs.YthmfjdafmnmgiaaDoor
