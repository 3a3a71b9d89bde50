/-
  An instruction of a slice, by its three cells.
-/
import Derived.Test.YtimjnmkfbdijeaaLg
namespace Go.Proofs.Ytimjnmkfbdijeaa
open Go.RowKit

theorem Ri.at9 {w : World} {A : Option Addr} {c : Nat} {L : List Ins} (h : Ri w A c L) {i : Nat} {o a z : Int} (hx : L[i]? = some (o, a, z)) : ∃ ad : Addr, A = some ad ∧ w.cell? (ad.add (i * 3)) = some (.int .u8 o) ∧ w.cell? ⟨(ad.add (i * 3)).block, (ad.add (i * 3)).off + 1, none⟩ = some (.int .i64 a) ∧ w.cell? ⟨(ad.add (i * 3)).block, (ad.add (i * 3)).off + 2, none⟩ = some (.int .i64 z) := by
  obtain ⟨hi, he⟩ := List.getElem?_eq_some_iff.1 hx
  obtain ⟨ad, hA, h1, h2, h3⟩ := h.at_ hi
  rw [he] at h1 h2 h3
  exact ⟨ad, hA, h1, h2, h3⟩
end Go.Proofs.Ytimjnmkfbdijeaa
