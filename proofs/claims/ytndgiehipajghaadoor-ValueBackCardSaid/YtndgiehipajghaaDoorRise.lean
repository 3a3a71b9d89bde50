/-
  The walk of OctetRise: for every width and every two numbers it returns true; nothing that was there has changed.
-/
import Derived.Test.YtndgiehipajghaaDoorAwake
namespace Go.Proofs.YtndgiehipajghaaDoor
open Go.RowKit

theorem rise_eq {n m : Int} {j : Nat} (h : sh n (j + 1) = sh m (j + 1)) (hd : sh n j % 256 = sh m j % 256) : sh n j = sh m j := by
  simp only [sh] at h; omega
theorem rise_ne {n m : Int} {j : Nat} (h : sh n (j + 1) = sh m (j + 1)) (hd : sh n j % 256 ≠ sh m j % 256) : (decide (sh n j % 256 < sh m j % 256) == decide (n < m)) = true := by
  simp only [sh] at h
  by_cases hlt : sh n j % 256 < sh m j % 256
  · have h1 : n < m := by
      rcases Int.lt_or_le n m with h2 | h2
      · exact h2
      · have := sh_mono h2 j; omega
    simp [hlt, h1]
  · have h1 : ¬ n < m := by
      intro h2
      have := sh_mono (Int.le_of_lt h2) j
      omega
    simp [hlt, h1]

end Go.Proofs.YtndgiehipajghaaDoor
