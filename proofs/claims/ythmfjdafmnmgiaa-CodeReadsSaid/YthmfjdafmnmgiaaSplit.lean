/-
  What octet.split does, at each of its instances: the new slice holds the low bytes of the number, least first; nothing that was there has changed.
-/
import Derived.Test.YthmfjdafmnmgiaaKit
namespace Go.Proofs.Ythmfjdafmnmgiaa
open Go.RowKit

theorem split_rel (n : Int) (k W : Nat) (h : k < W) : (((digs n k ++ List.replicate (W - k) 0).map (Value.int .u8)).set k (.int .u8 (sh n k % 256))) = (digs n (k + 1) ++ List.replicate (W - (k + 1)) 0).map (Value.int .u8) := by
  obtain ⟨m, rfl⟩ : ∃ m, W = k + 1 + m := ⟨W - (k + 1), by omega⟩
  rw [digs_snoc]
  have e1 : k + 1 + m - k = m + 1 := by omega
  have e2 : k + 1 + m - (k + 1) = m := by omega
  rw [e1, e2, List.replicate_succ]
  simp only [List.map_append, List.map_cons, List.append_assoc, List.singleton_append]
  rw [List.set_append_right _ _ (by simp [length_digs])]
  simp [length_digs]

end Go.Proofs.Ythmfjdafmnmgiaa
