/-
  The walk of OctetFew: for every width and number, signed number and row it returns true; nothing that was there has changed.
-/
import Derived.Test.YtndgiehipajghaaDoorRise
namespace Go.Proofs.YtndgiehipajghaaDoor
open Go.RowKit

/-- A row without its last byte. -/
theorem row_short {l : List Int} (hl : l.length ≤ 65535) : grE ((digs l.length 2 ++ l).take (2 + l.length - 1)) 0 = 10 := by
  rcases l with _ | ⟨b, l⟩
  · decide
  · have hlen : ((digs (b :: l).length 2 ++ (b :: l)).take (2 + (b :: l).length - 1)).length = 2 + l.length := by simp [length_digs]
    have hsplit : ((digs (b :: l).length 2 ++ (b :: l)).take (2 + (b :: l).length - 1)).take 2 = digs (b :: l).length 2 := by
      rw [List.take_take, Nat.min_eq_left (by simp), List.take_append_of_le_length (by rw [length_digs]; omega), List.take_of_length_le (by rw [length_digs]; omega)]
    generalize (digs (b :: l).length 2 ++ (b :: l)).take (2 + (b :: l).length - 1) = m at *
    have hn : num ((m.drop (0 : Int).toNat).take (2 : Int).toNat) = (b :: l).length := by
      have : (m.drop (0 : Int).toNat).take (2 : Int).toNat = m.take 2 := rfl
      rw [this, hsplit, num_digs, p256_2]
      omega
    obtain ⟨e1, e2, e3⟩ := get_ok (l := m) (p := 0) (W := 2) (by decide) (by decide) (by omega) (by omega) (by rw [hn]; simp at hl ⊢; omega)
    rw [grE, if_pos e1, e2, hn]
    exact (cut_short (by decide) (by simp; omega) (by simp; omega)).1

end Go.Proofs.YtndgiehipajghaaDoor
