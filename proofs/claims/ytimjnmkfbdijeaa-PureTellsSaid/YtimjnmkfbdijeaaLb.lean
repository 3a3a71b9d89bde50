/-
  Row, Awake, Rise, Few, Back, Again, Ref, RefGet, RefSig: in one text.
-/
import Derived.Test.YtimjnmkfbdijeaaLa
namespace Go.Proofs.Ytimjnmkfbdijeaa
open Go.RowKit

/-- Three result variables in three blocks. -/
def Res (W : World) (g T : Nat) (v1 v2 v3 : Value) : Prop :=
  W.heap[g]? = some (.cells #[v1] T (0, 0)) ∧ W.heap[g + 1]? = some (.cells #[v2] 3 (0, 0)) ∧ W.heap[g + 1 + 1]? = some (.cells #[v3] 35 (0, 0))
section
variable {W W' : World} {g T : Nat} {v1 v2 v3 : Value}
theorem Res.c1 (h : Res W g T v1 v2 v3) : W.cell? ⟨g, 0, none⟩ = some v1 := cell_of_one h.1
theorem Res.c2 (h : Res W g T v1 v2 v3) : W.cell? ⟨g + 1, 0, none⟩ = some v2 := cell_of_one h.2.1
theorem Res.c3 (h : Res W g T v1 v2 v3) : W.cell? ⟨g + 1 + 1, 0, none⟩ = some v3 := cell_of_one h.2.2
theorem Res.f1 (h : Res W g T v1 v2 v3) : W.frozen? ⟨g, 0, none⟩ = false := free_of_one h.1
theorem Res.f2 (h : Res W g T v1 v2 v3) : W.frozen? ⟨g + 1, 0, none⟩ = false := free_of_one h.2.1
theorem Res.f3 (h : Res W g T v1 v2 v3) : W.frozen? ⟨g + 1 + 1, 0, none⟩ = false := free_of_one h.2.2
theorem Res.lt (h : Res W g T v1 v2 v3) : g + 1 + 1 < W.heap.size := (Array.getElem?_eq_some_iff.1 h.2.2).1
theorem Res.s1 (h : Res W g T v1 v2 v3) (u : Value) : Res (W.setCell ⟨g, 0, none⟩ u) g T u v2 v3 :=
  ⟨one_setCell h.1, (Below.heap_setCell _ _ _ _ (by simp)).trans h.2.1, (Below.heap_setCell _ _ _ _ (by simp; omega)).trans h.2.2⟩
theorem Res.s2 (h : Res W g T v1 v2 v3) (u : Value) : Res (W.setCell ⟨g + 1, 0, none⟩ u) g T v1 u v3 :=
  ⟨(Below.heap_setCell _ _ _ _ (by simp)).trans h.1, one_setCell h.2.1, (Below.heap_setCell _ _ _ _ (by simp)).trans h.2.2⟩
theorem Res.s3 (h : Res W g T v1 v2 v3) (u : Value) : Res (W.setCell ⟨g + 1 + 1, 0, none⟩ u) g T v1 v2 u :=
  ⟨(Below.heap_setCell _ _ _ _ (by simp; omega)).trans h.1, (Below.heap_setCell _ _ _ _ (by simp)).trans h.2.1, one_setCell h.2.2⟩
theorem Res.below (h : Res W g T v1 v2 v3) (hb : Below W.heap.size W W') : Res W' g T v1 v2 v3 :=
  ⟨(hb.block _ (Array.getElem?_eq_some_iff.1 h.1).1).trans h.1, (hb.block _ (Array.getElem?_eq_some_iff.1 h.2.1).1).trans h.2.1, (hb.block _ (Array.getElem?_eq_some_iff.1 h.2.2).1).trans h.2.2⟩
end
theorem res_new (w : World) (T : Nat) (v1 v2 v3 : Value) : Res (((w.alloc (.cells #[v1] T)).alloc (.cells #[v2] 3)).alloc (.cells #[v3] 35)) w.heap.size T v1 v2 v3 := by
  refine ⟨?_, ?_, ?_⟩
  · rw [Below.heap_alloc _ _ _ (by simp; omega), Below.heap_alloc _ _ _ (by simp)]; exact heap_alloc_new _ _
  · rw [Below.heap_alloc _ _ _ (by simp)]
    have := heap_alloc_new (w.alloc (.cells #[v1] T)) (.cells #[v2] 3)
    simpa using this
  · have := heap_alloc_new ((w.alloc (.cells #[v1] T)).alloc (.cells #[v2] 3)) (.cells #[v3] 35)
    simpa using this

/-- GetRow's error, bytes and next. -/
def grE (l : List Int) (p : Int) : Int := if getE l p 2 = 0 then cutE l (p + 2) (getV l p 2) else getE l p 2
def grL (l : List Int) (p : Int) : List Int := if grE l p = 0 then cutL l (p + 2) (getV l p 2) else []
def grN (l : List Int) (p : Int) : Int := if grE l p = 0 then p + 2 + getV l p 2 else 0

theorem getV_2 {l : List Int} (h : Byt l) (p : Int) : getV l p 2 ≤ 65535 := by
  rw [getV]
  split
  · have h1 := num_lt (byt_cut h p 2)
    have h2 := p256_le (cutL_le l p 2 2 (Int.le_refl _))
    rw [p256_2] at h2
    omega
  · decide

end Go.Proofs.Ytimjnmkfbdijeaa
namespace Go.Proofs.Ytimjnmkfbdijeaa
open Go.RowKit

end Go.Proofs.Ytimjnmkfbdijeaa
namespace Go.Proofs.Ytimjnmkfbdijeaa
open Go.RowKit

theorem rise_eq {n m : Int} {j : Nat} (h : sh n (j + 1) = sh m (j + 1)) (hd : sh n j % 256 = sh m j % 256) : sh n j = sh m j := by
  simp only [sh] at h; omega
theorem rise_ne {n m : Int} {j : Nat} (h : sh n (j + 1) = sh m (j + 1)) (hd : sh n j % 256 ≠ sh m j % 256) : (decide (sh n j % 256 < sh m j % 256) == decide (n < m)) = true := by
  simp only [sh] at h
  by_cases hlt : sh n j % 256 < sh m j % 256
  · have h1 : n < m := by
      rcases Int.lt_or_le n m with h2 | h2
      · exact h2
      · have := sh_mono h2 j; omega
    simp [hlt, h1]
  · have h1 : ¬ n < m := by
      intro h2
      have := sh_mono (Int.le_of_lt h2) j
      omega
    simp [hlt, h1]

end Go.Proofs.Ytimjnmkfbdijeaa
namespace Go.Proofs.Ytimjnmkfbdijeaa
open Go.RowKit

/-- A row without its last byte. -/
theorem row_short {l : List Int} (hl : l.length ≤ 65535) : grE ((digs l.length 2 ++ l).take (2 + l.length - 1)) 0 = 10 := by
  rcases l with _ | ⟨b, l⟩
  · decide
  · have hlen : ((digs (b :: l).length 2 ++ (b :: l)).take (2 + (b :: l).length - 1)).length = 2 + l.length := by simp [length_digs]
    have hsplit : ((digs (b :: l).length 2 ++ (b :: l)).take (2 + (b :: l).length - 1)).take 2 = digs (b :: l).length 2 := by
      rw [List.take_take, Nat.min_eq_left (by simp), List.take_append_of_le_length (by rw [length_digs]; omega), List.take_of_length_le (by rw [length_digs]; omega)]
    generalize (digs (b :: l).length 2 ++ (b :: l)).take (2 + (b :: l).length - 1) = m at *
    have hn : num ((m.drop (0 : Int).toNat).take (2 : Int).toNat) = (b :: l).length := by
      have : (m.drop (0 : Int).toNat).take (2 : Int).toNat = m.take 2 := rfl
      rw [this, hsplit, num_digs, p256_2]
      omega
    obtain ⟨e1, e2, e3⟩ := get_ok (l := m) (p := 0) (W := 2) (by decide) (by decide) (by omega) (by omega) (by rw [hn]; simp at hl ⊢; omega)
    rw [grE, if_pos e1, e2, hn]
    exact (cut_short (by decide) (by simp; omega) (by simp; omega)).1

end Go.Proofs.Ytimjnmkfbdijeaa
namespace Go.Proofs.Ytimjnmkfbdijeaa
open Go.RowKit

theorem mid (l1 m l3 : List Int) : ((l1 ++ (m ++ l3)).drop (l1.length : Int).toNat).take (m.length : Int).toNat = m := by
  rw [Int.toNat_natCast, Int.toNat_natCast, List.drop_left, List.take_left]
theorem cut_mid (l1 m l3 : List Int) : cutE (l1 ++ (m ++ l3)) l1.length m.length = 0 ∧ cutL (l1 ++ (m ++ l3)) l1.length m.length = m ∧ cutN (l1 ++ (m ++ l3)) l1.length m.length = l1.length + m.length := by
  have h := cut_yes (l := l1 ++ (m ++ l3)) (p := l1.length) (n := m.length) (by omega) (by simp; omega) (by simp; omega)
  rw [mid] at h
  exact h
theorem get_mid {l1 m l3 : List Int} (h : 1 ≤ m.length ∧ m.length ≤ 8) (hb : num m ≤ 9223372036854775807) :
    getE (l1 ++ (m ++ l3)) l1.length m.length = 0 ∧ getV (l1 ++ (m ++ l3)) l1.length m.length = num m ∧ getN (l1 ++ (m ++ l3)) l1.length m.length = l1.length + m.length := by
  have h1 := get_ok (l := l1 ++ (m ++ l3)) (p := l1.length) (W := m.length) (by omega) (by omega) (by simp; omega) (by simp; omega) (by rw [mid]; exact hb)
  rw [mid] at h1
  exact h1
theorem get_back {n : Int} {k : Nat} (l1 l3 : List Int) (h1 : 1 ≤ k) (h8 : k ≤ 8) (h0 : 0 ≤ n) (hn : n < p256 k) (hm : n ≤ 9223372036854775807) :
    getE (l1 ++ (digs n k ++ l3)) l1.length k = 0 ∧ getV (l1 ++ (digs n k ++ l3)) l1.length k = n ∧ getN (l1 ++ (digs n k ++ l3)) l1.length k = l1.length + k := by
  have e : num (digs n k) = n := by rw [num_digs, Int.emod_eq_of_lt h0 hn]
  have h := get_mid (l1 := l1) (m := digs n k) (l3 := l3) (by rw [length_digs]; omega) (by rw [e]; exact hm)
  rw [e, length_digs] at h
  exact h
theorem sig_back {s : Int} (l1 l3 : List Int) (h1 : -9223372036854775808 ≤ s) (h2 : s ≤ 9223372036854775807) :
    cutE (l1 ++ (digs s 8 ++ l3)) l1.length 8 = 0 ∧ sigV (l1 ++ (digs s 8 ++ l3)) l1.length = s ∧ cutN (l1 ++ (digs s 8 ++ l3)) l1.length 8 = l1.length + 8 := by
  have h := cut_mid l1 (digs s 8) l3
  rw [length_digs] at h
  refine ⟨h.1, ?_, h.2.2⟩
  have h3 : cutL (l1 ++ (digs s 8 ++ l3)) l1.length 8 = digs s 8 := h.2.1
  rw [sigV, h3, num_digs, p256_8]
  unfold wrap64
  omega
theorem row_back (l1 l l3 : List Int) (hl : l.length ≤ 65535) :
    grE (l1 ++ ((digs l.length 2 ++ l) ++ l3)) l1.length = 0 ∧ grL (l1 ++ ((digs l.length 2 ++ l) ++ l3)) l1.length = l ∧ grN (l1 ++ ((digs l.length 2 ++ l) ++ l3)) l1.length = l1.length + 2 + l.length := by
  have h := get_back (n := l.length) (k := 2) l1 (l ++ l3) (by omega) (by omega) (by omega) (by rw [p256_2]; omega) (by omega)
  rw [← List.append_assoc (digs l.length 2) l l3] at h
  obtain ⟨h1, h2, h3⟩ := h
  have hc := cut_mid (l1 ++ digs l.length 2) l l3
  have e1 : (l1 ++ digs (l.length : Int) 2) ++ (l ++ l3) = l1 ++ ((digs (l.length : Int) 2 ++ l) ++ l3) := by simp
  have e2 : (((l1 ++ digs (l.length : Int) 2).length : Nat) : Int) = (l1.length : Int) + 2 := by simp [length_digs]
  rw [e1, e2] at hc
  have hE : grE (l1 ++ ((digs l.length 2 ++ l) ++ l3)) l1.length = 0 := by
    rw [grE, if_pos (by exact h1)]
    exact (congrArg (fun z => cutE (l1 ++ ((digs l.length 2 ++ l) ++ l3)) (l1.length + 2) z) h2).trans hc.1
  refine ⟨hE, ?_, ?_⟩
  · rw [grL, if_pos hE]
    exact (congrArg (fun z => cutL (l1 ++ ((digs l.length 2 ++ l) ++ l3)) (l1.length + 2) z) h2).trans hc.2.1
  · rw [grN, if_pos hE]
    exact congrArg (fun z => (l1.length : Int) + 2 + z) h2

end Go.Proofs.Ytimjnmkfbdijeaa
namespace Go.Proofs.Ytimjnmkfbdijeaa
open Go.RowKit

theorem get_inv {l : List Int} {p W : Int} (hb : Byt l) (h : getE l p W = 0) : ∃ a k : Nat, p = a ∧ W = k ∧ 1 ≤ k ∧ k ≤ 8 ∧ a + k ≤ l.length ∧ getN l p W = a + k ∧ putE W (getV l p W) = 0 ∧ putL W (getV l p W) = (l.drop a).take k := by
  have hW : 1 ≤ W ∧ W ≤ 8 := by
    by_cases hW : W < 1 ∨ 8 < W
    · rw [get_bad hW] at h; simp at h
    · omega
  have hc : cutE l p W = 0 := by
    rw [get_eq hW] at h
    by_cases hc : cutE l p W = 0
    · exact hc
    · rw [if_neg hc] at h; exact absurd h hc
  have hp : 0 ≤ p ∧ p ≤ l.length ∧ W ≤ l.length - p := by
    by_cases h1 : p < 0 ∨ l.length < p
    · rw [(cut_arg h1).1] at hc; simp at hc
    · by_cases h2 : l.length - p < W
      · rw [(cut_short (by omega) (by omega) h2).1] at hc; simp at hc
      · omega
  obtain ⟨a, rfl⟩ : ∃ a : Nat, p = a := ⟨p.toNat, by omega⟩
  obtain ⟨k, rfl⟩ : ∃ k : Nat, W = k := ⟨W.toNat, by omega⟩
  have hL : cutL l a k = (l.drop a).take k := by rw [cutL, if_pos hc, Int.toNat_natCast, Int.toNat_natCast]
  have hlen : (cutL l a k).length = k := by rw [hL]; simp; omega
  have hbc := byt_cut hb a k
  have hV : getV l a k = num (cutL l a k) := by rw [getV, if_pos h]
  have h0 := num_nonneg hbc
  have hlt := num_lt hbc
  rw [hlen] at hlt
  obtain ⟨e1, e2⟩ := put_yes (n := getV l a k) (k := k) (by omega) (by omega) (by rw [hV]; exact h0) (by rw [hV]; exact hlt)
  refine ⟨a, k, rfl, rfl, by omega, by omega, by omega, by rw [getN, if_pos h], e1, ?_⟩
  have := digs_num hbc
  rw [hlen] at this
  rw [e2, hV, this, hL]

theorem sig_inv {l : List Int} {p : Int} (hb : Byt l) (h : cutE l p 8 = 0) : ∃ a : Nat, p = a ∧ a + 8 ≤ l.length ∧ cutN l p 8 = a + 8 ∧ digs (sigV l p) 8 = (l.drop a).take 8 := by
  have hp := cutE_inv h
  obtain ⟨a, rfl⟩ : ∃ a : Nat, p = a := ⟨p.toNat, by omega⟩
  have hL : cutL l a 8 = (l.drop a).take 8 := by rw [cutL, if_pos h, Int.toNat_natCast]; rfl
  have hlen : (cutL l a 8).length = 8 := by rw [hL]; simp; omega
  refine ⟨a, rfl, by omega, by rw [cutN, if_pos h], ?_⟩
  have hd := digs_num (byt_cut hb a 8)
  rw [hlen] at hd
  rw [← hL, sigV]
  refine Eq.trans (digs_congr ?_) hd
  rw [p256_8]
  unfold wrap64
  omega

theorem row_inv {l : List Int} {p : Int} (hb : Byt l) (h : grE l p = 0) :
    ∃ a m : Nat, p = a ∧ a + (2 + m) ≤ l.length ∧ (grL l p).length = m ∧ m ≤ 65535 ∧ grN l p = a + 2 + m ∧ rowL (grL l p) = (l.drop a).take (2 + m) := by
  have hg : getE l p 2 = 0 := by
    by_cases hg : getE l p 2 = 0
    · exact hg
    · rw [grE, if_neg hg] at h; exact absurd h hg
  have hc : cutE l (p + 2) (getV l p 2) = 0 := by rw [grE, if_pos hg] at h; exact h
  have hv2 := getV_2 hb p
  have hv0 : 0 ≤ getV l p 2 := by rw [getV, if_pos hg]; exact num_nonneg (byt_cut hb _ _)
  obtain ⟨a, k, rfl, hk, _, _, hak, _, _, hPL⟩ := get_inv hb hg
  obtain rfl : k = 2 := by omega
  obtain ⟨m, hm⟩ : ∃ m : Nat, getV l a 2 = m := ⟨(getV l a 2).toNat, by omega⟩
  have hi := cutE_inv hc
  rw [hm] at hi hc hv2
  have hL : grL l a = (l.drop (a + 2)).take m := by
    rw [grL, if_pos h, hm, cutL, if_pos hc, Int.toNat_natCast]
    congr 2
  have hlen : (grL l a).length = m := by rw [hL]; simp; omega
  refine ⟨a, m, rfl, by omega, hlen, by omega, by rw [grN, if_pos h, hm], ?_⟩
  have hd : digs m 2 = (l.drop a).take 2 := by
    have h2 := hPL
    rw [hm, putL, if_pos (by unfold putE; rw [if_neg (by omega)]; rw [show (2 : Int).toNat = 2 from rfl, p256_2, if_neg (by omega)])] at h2
    exact h2
  rw [rowL, if_neg (by omega), hlen, hd, hL, List.take_add, List.drop_drop]

set_option linter.unusedSimpArgs false
end Go.Proofs.Ytimjnmkfbdijeaa
namespace Go.Proofs.Ytimjnmkfbdijeaa
open Go.RowKit
set_option maxRecDepth 100000

theorem rput_over {n : Int} {k : Nat} (h1 : 1 ≤ k) (h8 : k ≤ 8) (h0 : 0 ≤ n) (h : 0 < sh n k) : putE k n = 11 ∧ putL k n = [] := by
  refine put_wide h1 h8 (.inr ?_)
  rcases Int.lt_or_le n (p256 k) with h2 | h2
  · rw [sh_top h0 h2] at h; simp at h
  · exact h2
theorem rput_fits {n : Int} {k : Nat} (h1 : 1 ≤ k) (h8 : k ≤ 8) (h0 : 0 ≤ n) (h : sh n k ≤ 0) : putE k n = 0 ∧ putL k n = digs n k := by
  refine put_yes h1 h8 h0 ?_
  have hp := p256_pos k
  rw [sh_eq] at h
  have h3 := Int.emod_lt_of_pos n hp
  have h4 := Int.emod_add_mul_ediv n (p256 k)
  have h5 : 0 ≤ n / p256 k := Int.ediv_nonneg h0 (Int.le_of_lt hp)
  have h6 : n / p256 k = 0 := by omega
  rw [h6] at h4
  omega

/-- n below 0, turned about. -/
def tur (n : Int) : Int := if n < 0 then -(n + 1) else n
theorem tur_nonneg (n : Int) : 0 ≤ tur n := by unfold tur; split <;> omega
theorem sh_neg (n : Int) (k : Nat) : sh (-(n + 1)) k = -(sh n k + 1) := by
  induction k with
  | zero => rfl
  | succ k ih => simp only [sh]; rw [ih]; omega
theorem dig_tur (n : Int) (k : Nat) : sh n k % 256 = if n < 0 then 255 - sh (tur n) k % 256 else sh (tur n) k % 256 := by
  by_cases h : n < 0
  · rw [if_pos h, tur, if_pos h, sh_neg]; omega
  · rw [if_neg h, tur, if_neg h]

end Go.Proofs.Ytimjnmkfbdijeaa
namespace Go.Proofs.Ytimjnmkfbdijeaa
open Go.RowKit
set_option maxRecDepth 100000

end Go.Proofs.Ytimjnmkfbdijeaa
namespace Go.Proofs.Ytimjnmkfbdijeaa
open Go.RowKit
set_option maxRecDepth 100000

/-- Each byte turned about. -/
def cmp (l : List Int) : List Int := l.map (255 - ·)
theorem length_cmp (l : List Int) : (cmp l).length = l.length := by simp [cmp]
theorem byt_cmp {l : List Int} (h : Byt l) : Byt (cmp l) := by
  intro x hx
  obtain ⟨y, hy, rfl⟩ := List.mem_map.1 hx
  have := h y hy
  omega
theorem cmp_at {l : List Int} {i : Nat} (h : i < l.length) : (cmp l)[i]?.getD 0 = 255 - l[i]?.getD 0 := by
  simp [cmp, List.getElem?_eq_getElem h]
theorem num_cmp (l : List Int) : num (cmp l) = p256 l.length - 1 - num l := by
  induction l with
  | nil => simp [cmp, num, p256]
  | cons b l ih =>
    simp only [cmp, List.map_cons, num, List.length_cons] at ih ⊢
    rw [ih, p256_succ]
    omega
theorem sig_high {m : List Int} (h8 : m.length = 8) (hb : Byt m) (h : 9223372036854775807 < num m) : wrap64 (num m) = -num (cmp m) - 1 ∧ num (cmp m) ≤ 9223372036854775807 := by
  have h1 := num_lt hb
  have h2 := num_cmp m
  rw [h8, p256_8] at h1 h2
  unfold wrap64
  omega
theorem sig_low {m : List Int} (hb : Byt m) (h : num m ≤ 9223372036854775807) : wrap64 (num m) = num m := by
  have h1 := num_nonneg hb
  unfold wrap64
  omega

end Go.Proofs.Ytimjnmkfbdijeaa
