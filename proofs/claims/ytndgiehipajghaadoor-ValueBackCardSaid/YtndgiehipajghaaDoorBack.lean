/-
  The walk of OctetBack: what was put is got, wherever it stands; for every argument the call returns true; nothing that was there has changed.
-/
import Derived.Test.YtndgiehipajghaaDoorFew
namespace Go.Proofs.YtndgiehipajghaaDoor
open Go.RowKit

theorem mid (l1 m l3 : List Int) : ((l1 ++ (m ++ l3)).drop (l1.length : Int).toNat).take (m.length : Int).toNat = m := by
  rw [Int.toNat_natCast, Int.toNat_natCast, List.drop_left, List.take_left]
theorem cut_mid (l1 m l3 : List Int) : cutE (l1 ++ (m ++ l3)) l1.length m.length = 0 ∧ cutL (l1 ++ (m ++ l3)) l1.length m.length = m ∧ cutN (l1 ++ (m ++ l3)) l1.length m.length = l1.length + m.length := by
  have h := cut_yes (l := l1 ++ (m ++ l3)) (p := l1.length) (n := m.length) (by omega) (by simp; omega) (by simp; omega)
  rw [mid] at h
  exact h
theorem get_mid {l1 m l3 : List Int} (h : 1 ≤ m.length ∧ m.length ≤ 8) (hb : num m ≤ 9223372036854775807) :
    getE (l1 ++ (m ++ l3)) l1.length m.length = 0 ∧ getV (l1 ++ (m ++ l3)) l1.length m.length = num m ∧ getN (l1 ++ (m ++ l3)) l1.length m.length = l1.length + m.length := by
  have h1 := get_ok (l := l1 ++ (m ++ l3)) (p := l1.length) (W := m.length) (by omega) (by omega) (by simp; omega) (by simp; omega) (by rw [mid]; exact hb)
  rw [mid] at h1
  exact h1
theorem get_back {n : Int} {k : Nat} (l1 l3 : List Int) (h1 : 1 ≤ k) (h8 : k ≤ 8) (h0 : 0 ≤ n) (hn : n < p256 k) (hm : n ≤ 9223372036854775807) :
    getE (l1 ++ (digs n k ++ l3)) l1.length k = 0 ∧ getV (l1 ++ (digs n k ++ l3)) l1.length k = n ∧ getN (l1 ++ (digs n k ++ l3)) l1.length k = l1.length + k := by
  have e : num (digs n k) = n := by rw [num_digs, Int.emod_eq_of_lt h0 hn]
  have h := get_mid (l1 := l1) (m := digs n k) (l3 := l3) (by rw [length_digs]; omega) (by rw [e]; exact hm)
  rw [e, length_digs] at h
  exact h
theorem sig_back {s : Int} (l1 l3 : List Int) (h1 : -9223372036854775808 ≤ s) (h2 : s ≤ 9223372036854775807) :
    cutE (l1 ++ (digs s 8 ++ l3)) l1.length 8 = 0 ∧ sigV (l1 ++ (digs s 8 ++ l3)) l1.length = s ∧ cutN (l1 ++ (digs s 8 ++ l3)) l1.length 8 = l1.length + 8 := by
  have h := cut_mid l1 (digs s 8) l3
  rw [length_digs] at h
  refine ⟨h.1, ?_, h.2.2⟩
  have h3 : cutL (l1 ++ (digs s 8 ++ l3)) l1.length 8 = digs s 8 := h.2.1
  rw [sigV, h3, num_digs, p256_8]
  unfold wrap64
  omega
theorem row_back (l1 l l3 : List Int) (hl : l.length ≤ 65535) :
    grE (l1 ++ ((digs l.length 2 ++ l) ++ l3)) l1.length = 0 ∧ grL (l1 ++ ((digs l.length 2 ++ l) ++ l3)) l1.length = l ∧ grN (l1 ++ ((digs l.length 2 ++ l) ++ l3)) l1.length = l1.length + 2 + l.length := by
  have h := get_back (n := l.length) (k := 2) l1 (l ++ l3) (by omega) (by omega) (by omega) (by rw [p256_2]; omega) (by omega)
  rw [← List.append_assoc (digs l.length 2) l l3] at h
  obtain ⟨h1, h2, h3⟩ := h
  have hc := cut_mid (l1 ++ digs l.length 2) l l3
  have e1 : (l1 ++ digs (l.length : Int) 2) ++ (l ++ l3) = l1 ++ ((digs (l.length : Int) 2 ++ l) ++ l3) := by simp
  have e2 : (((l1 ++ digs (l.length : Int) 2).length : Nat) : Int) = (l1.length : Int) + 2 := by simp [length_digs]
  rw [e1, e2] at hc
  have hE : grE (l1 ++ ((digs l.length 2 ++ l) ++ l3)) l1.length = 0 := by
    rw [grE, if_pos (by exact h1)]
    exact (congrArg (fun z => cutE (l1 ++ ((digs l.length 2 ++ l) ++ l3)) (l1.length + 2) z) h2).trans hc.1
  refine ⟨hE, ?_, ?_⟩
  · rw [grL, if_pos hE]
    exact (congrArg (fun z => cutL (l1 ++ ((digs l.length 2 ++ l) ++ l3)) (l1.length + 2) z) h2).trans hc.2.1
  · rw [grN, if_pos hE]
    exact congrArg (fun z => (l1.length : Int) + 2 + z) h2

end Go.Proofs.YtndgiehipajghaaDoor
