/-
  Jd, Je, Jf: in one text.
-/
import Derived.Test.YtmgppdjbmhjmbaaGreatLja
import Derived.Test.YtmgppdjbmhjmbaaGreatLec
import Derived.WalkSmall
import Derived.Test.YtmgppdjbmhjmbaaGreatLm
namespace Go.Proofs.YtmgppdjbmhjmbaaGreat
open Go.RowKit
set_option maxRecDepth 100000
set_option linter.unusedSimpArgs false
set_option linter.unusedVariables false

def clr {α : Type} (f : α → List Value) (L : List α) : List Value := L.flatMap f
section
variable {α : Type} {f : α → List Value} {m : Nat}
theorem clr_len (hm : ∀ x, (f x).length = m) : ∀ L : List α, (clr f L).length = L.length * m
  | [] => by simp [clr]
  | x :: L => by
    have := clr_len hm L
    unfold clr at this ⊢
    rw [List.flatMap_cons, List.length_append, this, hm, List.length_cons, Nat.add_mul]
    omega
theorem clr_append (L M : List α) : clr f (L ++ M) = clr f L ++ clr f M := by simp [clr]
theorem clr_at (hm : ∀ x, (f x).length = m) {j : Nat} (hj : j < m) : ∀ {L : List α} {i : Nat} {x : α}, L[i]? = some x → (clr f L)[i * m + j]? = (f x)[j]?
  | [], i, x, h => by simp at h
  | y :: L, 0, x, h => by
    simp at h
    subst h
    rw [clr, List.flatMap_cons, Nat.zero_mul, Nat.zero_add, List.getElem?_append_left (by rw [hm]; exact hj)]
  | y :: L, i + 1, x, h => by
    have := clr_at hm hj (L := L) (i := i) (x := x) (by simpa using h)
    rw [clr, List.flatMap_cons, List.getElem?_append_right (by rw [hm, Nat.add_mul]; omega), hm, ← clr, show (i + 1) * m + j - m = i * m + j by rw [Nat.add_mul]; omega]
    exact this
/-- An element that is written over, cell by cell. -/
theorem clr_set (hm : ∀ x, (f x).length = m) {L : List α} {i : Nat} {x y : α} (h : L[i]? = some x) {j : Nat} (hj : j < m) {u : Value} (hy : f y = (f x).set j u) : (clr f L).set (i * m + j) u = clr f (L.set i y) := by
  have hi := (List.getElem?_eq_some_iff.1 h).1
  apply List.ext_getElem?
  intro k
  by_cases hk : k < L.length * m
  · have hm0 : 0 < m := by omega
    have hk2 : k / m < L.length := (Nat.div_lt_iff_lt_mul hm0).2 hk
    have e : k = k / m * m + k % m := by rw [Nat.mul_comm]; exact (Nat.div_add_mod k m).symm
    have hr := Nat.mod_lt k hm0
    by_cases hki : k / m = i
    · have h2 : (L.set i y)[k / m]? = some y := by rw [hki, List.getElem?_set_self hi]
      have h3 := clr_at hm hr h2
      rw [← e] at h3
      rw [h3, hy]
      by_cases hkj : k % m = j
      · have : k = i * m + j := by rw [← hki, ← hkj]; exact e
        rw [this, List.getElem?_set_self (by rw [clr_len hm]; omega), ← this, hkj, List.getElem?_set_self (by rw [hm]; exact hj)]
      · have : i * m + j ≠ k := fun h' => hkj (by rw [← h', Nat.mul_comm i m, Nat.mul_add_mod, Nat.mod_eq_of_lt hj])
        rw [List.getElem?_set_ne this, List.getElem?_set_ne (fun h' => hkj h'.symm)]
        have h4 := clr_at hm hr (show L[k / m]? = some x by rw [hki]; exact h)
        rw [← e] at h4
        exact h4
    · have h2 : (L.set i y)[k / m]? = some L[k / m] := by rw [List.getElem?_set_ne (fun h' => hki h'.symm), List.getElem?_eq_getElem hk2]
      have h3 := clr_at hm hr h2
      have h4 := clr_at hm hr (List.getElem?_eq_getElem hk2)
      rw [← e] at h3 h4
      have : i * m + j ≠ k := fun h' => hki (by rw [← h', Nat.mul_comm i m, Nat.mul_add_div hm0, Nat.div_eq_of_lt hj, Nat.add_zero])
      rw [List.getElem?_set_ne this, h4, h3]
  · rw [List.getElem?_eq_none (by rw [List.length_set, clr_len hm]; omega), List.getElem?_eq_none (by rw [clr_len hm, List.length_set]; omega)]
/-- The slice at A, of capacity c, reads as the elements L. -/
def Rg (f : α → List Value) (m : Nat) (w : World) (A : Option Addr) (c : Nat) (L : List α) : Prop := L.length ≤ c ∧ c ≤ maxLen ∧ ((A = none ∧ L = []) ∨ ∃ g, A = some ⟨g, 0, none⟩ ∧ g < w.heap.size ∧ ∀ j u, (clr f L)[j]? = some u → w.cell? ⟨g, j, none⟩ = some u)
theorem Rg.keep {w w' : World} {A : Option Addr} {c : Nat} {L : List α} (h : Rg f m w A c L) (hb : Below w.heap.size w w') : Rg f m w' A c L := by
  refine ⟨h.1, h.2.1, ?_⟩
  rcases h.2.2 with h1 | ⟨g, hA, hg, hc⟩
  · exact .inl h1
  · exact .inr ⟨g, hA, Nat.lt_of_lt_of_le hg hb.size, fun j u hj => (hb.cell (cell_lt (hc j u hj))).trans (hc j u hj)⟩
theorem Rg.of_own {w : World} {A : Option Addr} {c base e : Nat} {n : Nat} {L : List α} (hm : ∀ x, (f x).length = m) (hm0 : 0 < m) (h : w.ownsRow base e m (.slice A n c) n (clr f L)) : Rg f m w A c L ∧ n = L.length := by
  have hn : n = L.length := by have := h.1; rw [clr_len hm] at this; exact (Nat.eq_of_mul_eq_mul_right hm0 this).symm
  have hc := fun g (hg : A = some ⟨g, 0, none⟩) j u (hj : (clr f L)[j]? = some u) => (by subst hg; have := h.cells (g := g) rfl j u hj; exact this : w.cell? ((⟨g, 0, none⟩ : Addr).add j) = some u)
  refine ⟨?_, hn⟩
  rcases h.2 with ⟨hv, h0⟩ | ⟨g, cap, cur, hv, _, hh, hcap, hmx, _⟩
  · injection hv with e1 e2 e3
    have : L = [] := List.eq_nil_of_length_eq_zero (by omega)
    exact ⟨by omega, by unfold maxLen; omega, .inl ⟨e1, this⟩⟩
  · injection hv with e1 e2 e3
    refine ⟨by omega, by omega, .inr ⟨g, e1, (Array.getElem?_eq_some_iff.1 hh).1, fun j u hj => ?_⟩⟩
    have := hc g e1 j u hj
    unfold Addr.add at this
    split at this
    · rename_i h0; subst h0; exact this
    · simpa using this
/-- The cells of element i. -/
theorem Rg.at_ {w : World} {A : Option Addr} {c : Nat} {L : List α} (hm : ∀ x, (f x).length = m) (h : Rg f m w A c L) {i : Nat} {x : α} (hx : L[i]? = some x) : ∃ g, A = some ⟨g, 0, none⟩ ∧ g < w.heap.size ∧ ∀ j, j < m → w.cell? ⟨g, i * m + j, none⟩ = (f x)[j]? := by
  rcases h.2.2 with ⟨_, h1⟩ | ⟨g, hA, hg, hc⟩
  · subst h1; simp at hx
  · refine ⟨g, hA, hg, fun j hj => ?_⟩
    have h1 := clr_at hm hj hx
    have h2 : (f x)[j]? = some ((f x)[j]'(by rw [hm]; exact hj)) := List.getElem?_eq_getElem _
    rw [h2] at h1 ⊢
    exact hc _ _ h1
end
/-- A call's cells, an account's, a certificate's. -/
def cl4 (x : Kl12) : List Value := [.int .i64 x.1, .int .i64 x.2.1, .bool x.2.2.1, .int .i64 x.2.2.2]
theorem cl4_len (x : Kl12) : (cl4 x).length = 4 := rfl
def ce3 (x : Ce) : List Value := [.int .i64 x.1, .int .i64 x.2.1, .int .i64 x.2.2]
theorem ce3_len (x : Ce) : (ce3 x).length = 3 := rfl
/-- An account: its own, where its calls lie, these. -/
structure Az where
  c : Ce
  A : Option Addr
  k : Nat
  L : List Kl12
def az4 (z : Az) : List Value := [.int .i64 z.c.1, .int .i64 z.c.2.1, .int .i64 z.c.2.2, .slice z.A z.L.length z.k]
theorem az4_len (z : Az) : (az4 z).length = 4 := rfl
def Az.ok (w : World) (z : Az) : Prop := Rg cl4 4 w z.A z.k z.L
/-- Block X holds an account. -/
def Ax (w : World) (X : Nat) (c : Ce) (v : Value) : Prop := w.heap[X]? = some (.cells #[.int .i64 c.1, .int .i64 c.2.1, .int .i64 c.2.2, v] 84 (0, 0))
section
variable {w w' : World} {X : Nat} {c : Ce} {v : Value}
theorem Ax.lt (h : Ax w X c v) : X < w.heap.size := (Array.getElem?_eq_some_iff.1 h).1
theorem Ax.keep (h : Ax w X c v) (hb : Below w.heap.size w w') : Ax w' X c v := (hb.block X h.lt).trans h
theorem Ax.new (w : World) (c : Ce) (v : Value) : Ax (w.alloc (.cells #[.int .i64 c.1, .int .i64 c.2.1, .int .i64 c.2.2, v] 84)) w.heap.size c v := heap_alloc_last w _
theorem Ax.cells (h : Ax w X c v) : w.cell? ⟨X, 0, none⟩ = some (.int .i64 c.1) ∧ w.cell? ⟨X, 1, none⟩ = some (.int .i64 c.2.1) ∧ w.cell? ⟨X, 2, none⟩ = some (.int .i64 c.2.2) ∧ w.cell? ⟨X, 3, none⟩ = some v ∧
    w.frozen? ⟨X, 0, none⟩ = false ∧ w.frozen? ⟨X, 1, none⟩ = false ∧ w.frozen? ⟨X, 2, none⟩ = false ∧ w.frozen? ⟨X, 3, none⟩ = false := by
  refine ⟨?_, ?_, ?_, ?_, frozen_of_row w X 0 _ _ h, frozen_of_row w X 1 _ _ h, frozen_of_row w X 2 _ _ h, frozen_of_row w X 3 _ _ h⟩ <;> rw [cell_of_row w X _ _ _ (0, 0) h] <;> rfl
theorem Ax.set0 (h : Ax w X c v) (n : Int) : Ax (w.setCell ⟨X, 0, none⟩ (.int .i64 n)) X (n, c.2) v := by
  unfold Ax
  rw [heap_setCell_same w X 0 _ _ _ h]
  rfl
theorem Ax.set1 (h : Ax w X c v) (n : Int) : Ax (w.setCell ⟨X, 1, none⟩ (.int .i64 n)) X (c.1, n, c.2.2) v := by
  unfold Ax
  rw [heap_setCell_same w X 1 _ _ _ h]
  rfl
theorem Ax.set2 (h : Ax w X c v) (n : Int) : Ax (w.setCell ⟨X, 2, none⟩ (.int .i64 n)) X (c.1, c.2.1, n) v := by
  unfold Ax
  rw [heap_setCell_same w X 2 _ _ _ h]
  rfl
theorem Ax.set3 (h : Ax w X c v) (u : Value) : Ax (w.setCell ⟨X, 3, none⟩ u) X c u := by
  unfold Ax
  rw [heap_setCell_same w X 3 _ _ _ h]
  rfl
theorem Ax.other (h : Ax w X c v) {p : Addr} (hp : p.block ≠ X) (u : Value) : Ax (w.setCell p u) X c v := (Below.heap_setCell w p u X (fun e => hp e.symm)).trans h
end
/-- Only block X has been written, and what is new. -/
abbrev Fx (X : Nat) (w w' : World) : Prop := Fr11 (· = X) w w'
theorem Fx.below {X : Nat} {w w' : World} (h : Fx X w w') {B : Nat} (hB : B ≤ X) (hw : B ≤ w.heap.size) : Below B w w' := Fr11.below h fun j hj => ⟨by omega, by omega⟩
theorem wrap_small {x : Int} (h : -9223372036854775808 ≤ x ∧ x ≤ 9223372036854775807) : IntKind.i64.wrap x = x := by
  simp [IntKind.wrap, IntKind.signed, IntKind.bits, go_sem]
  omega
set_option maxHeartbeats 4000000 in
theorem add12_v (X : Nat) (c : Ce) (v : Value) (f s h n : Int) (w : World) (hx : Ax w X c v) (b1 : 0 ≤ f * n ∧ f * n ≤ 1000000000000000000) (b2 : 0 ≤ h * n ∧ h * n ≤ 1000000000000000000) (b3 : 0 ≤ c.1 ∧ c.1 ≤ 1000000000000000000) (b4 : 0 ≤ c.2.2 ∧ c.2.2 ≤ 1000000000000000000) :
    Calls Tryz.prog 38 #[.pointer (some ⟨X, 0, none⟩), .agg #[.int .i64 f, .int .i64 s, .int .i64 h], .int .i64 n] w fun e w' => e = .returned (.tuple #[]) ∧ Ax w' X (c.1 + f * n, c.2.1, c.2.2 + h * n) v ∧ Fx X w w' := by
  have hlt := hx.lt
  have e1 : IntKind.i64.wrap (f * n) = f * n := wrap_small (by omega)
  have e2 : IntKind.i64.wrap (h * n) = h * n := wrap_small (by omega)
  have e3 : IntKind.i64.wrap (c.1 + f * n) = c.1 + f * n := wrap_small (by omega)
  have e4 : IntKind.i64.wrap (c.2.2 + h * n) = c.2.2 + h * n := wrap_small (by omega)
  have HX := Lib.hid hx
  clear hx b1 b2 b3 b4
  go_enter Tryz.func38, Tryz.ntmps38
  go_upto_region 1 with (fail)
  have H1 := Lib.hid (HX.out.keep (w' := w.alloc (.cells #[.int .i64 f, .int .i64 s, .int .i64 h] 44)) new1)
  have HB : Hid (Fx X w (w.alloc (.cells #[.int .i64 f, .int .i64 s, .int .i64 h] 44))) := Lib.hid ((Fr11.refl _ _).alloc _)
  obtain ⟨B, hB⟩ : ∃ B, w.heap.size = B := ⟨_, rfl⟩
  have hlt2 : X < B := by omega
  have hc : (w.alloc (.cells #[.int .i64 f, .int .i64 s, .int .i64 h] 44)).cell? ⟨B, 0, none⟩ = some (.int .i64 f) ∧ (w.alloc (.cells #[.int .i64 f, .int .i64 s, .int .i64 h] 44)).cell? ⟨B, 2, none⟩ = some (.int .i64 h) := by
    rw [← hB]
    constructor <;> simp [go_sem]
  obtain ⟨c0, c2⟩ := hc
  rw [hB] at *
  generalize w.alloc (.cells #[.int .i64 f, .int .i64 s, .int .i64 h] 44) = w1 at H1 HB c0 c2 ⊢
  obtain ⟨x0, x1, x2, x3, y0, y1, y2, y3⟩ := H1.out.cells
  go_region
  go_upto_region 2 with (fail)
  have H2 : Hid (Ax (w1.setCell ⟨X, 0, none⟩ (.int .i64 (c.1 + f * n))).drew X (c.1 + f * n, c.2) v) := Lib.hid (H1.out.set0 _)
  have HB2 : Hid (Fx X w (w1.setCell ⟨X, 0, none⟩ (.int .i64 (c.1 + f * n))).drew) := Lib.hid ((HB.out.set (p := ⟨X, 0, none⟩) (.inr rfl) _).drewN 1)
  have hBX : B ≠ X := by omega
  have c3 : (w1.setCell ⟨X, 0, none⟩ (.int .i64 (c.1 + f * n))).drew.cell? ⟨B, 2, none⟩ = some (.int .i64 h) := by
    have : (w1.setCell ⟨X, 0, none⟩ (.int .i64 (c.1 + f * n))).cell? ⟨B, 2, none⟩ = some (.int .i64 h) := by
      rw [World.cell?_setCell_other _ _ _ _ (fun e => by injection e with e _; exact hBX e.symm)]
      exact c2
    exact this
  generalize (w1.setCell ⟨X, 0, none⟩ (.int .i64 (c.1 + f * n))).drew = w2 at H2 HB2 c3 ⊢
  clear x0 x1 x2 x3 y0 y1 y2 y3 c0 c2 HB H1
  obtain ⟨x0, x1, x2, x3, y0, y1, y2, y3⟩ := H2.out.cells
  dsimp only at x0 x1 x2
  go_region
  go_wp2_with fail
  go_end0
  exact ⟨rfl, H2.out.set2 _, (HB2.out.set (p := ⟨X, 2, none⟩) (.inr rfl) _).drewN 1⟩
set_option maxHeartbeats 4000000 in
theorem rise12_v (X : Nat) (c : Ce) (v : Value) (n : Int) (w : World) (hx : Ax w X c v) (hn : -9223372036854775808 ≤ n ∧ n ≤ 9223372036854775807) :
    Calls Tryz.prog 39 #[.pointer (some ⟨X, 0, none⟩), .int .i64 n] w fun e w' => e = .returned (.tuple #[]) ∧ Ax w' X (c.1, max c.2.1 n, c.2.2) v ∧ Fx X w w' := by
  have HX := Lib.hid hx
  have HB : Hid (Fx X w w) := Lib.hid (Fr11.refl _ _)
  obtain ⟨x0, x1, x2, x3, y0, y1, y2, y3⟩ := hx.cells
  clear hx
  go_enter Tryz.func39, Tryz.ntmps39
  go_wp2_with fail
  · have h := ‹_ < _›
    have HM : Hid (max c.2.1 n = n) := Lib.hid (by omega)
    go_end0
    exact ⟨rfl, by rw [HM.out]; exact HX.out.set1 n, HB.out.set (p := ⟨X, 1, none⟩) (.inr rfl) _⟩
  · have h := ‹n ≤ c.2.1›
    have HM : Hid (max c.2.1 n = c.2.1) := Lib.hid (by omega)
    go_end0
    exact ⟨rfl, by rw [HM.out]; exact HX.out.set1 c.2.1, HB.out.set (p := ⟨X, 1, none⟩) (.inr rfl) _⟩
end Go.Proofs.YtmgppdjbmhjmbaaGreat
namespace Go.Proofs.YtmgppdjbmhjmbaaGreat
open Go.RowKit
set_option maxRecDepth 100000
set_option linter.unusedSimpArgs false
set_option linter.unusedVariables false

abbrev cv (c : Ce) : Value := .agg #[.int .i64 c.1, .int .i64 c.2.1, .int .i64 c.2.2]
theorem within12_v (n a b : Int) (w : World) : Calls Tryz.prog 27 #[.int .i64 n, .int .i64 a, .int .i64 b] w fun e w' => e = .returned (.bool (wi12 n a b)) ∧ w' = w := by
  by_cases h0 : 0 ≤ n
  · have e0 : decide (0 ≤ n) = true := by simpa using h0
    obtain ⟨v, hv⟩ : ∃ v, wi12 n a b = v := ⟨_, rfl⟩
    have HV : Hid (wi12 n a b = v) := Lib.hid hv
    have HW : Hid (decide (n ≤ min a b) = v) := Lib.hid (by rw [← hv, wi12, e0, Bool.true_and])
    rw [hv]
    clear hv
    go_enter Tryz.func27, Tryz.ntmps27
    go_wp2_with fail
    · have h := ‹b < a›
      have HD : Hid (decide (n ≤ b) = v) := Lib.hid (by rw [← HW.out]; congr 1; rw [Int.min_def, if_neg (by omega)])
      go_ret
      exact ⟨by rw [← HD.out]; rfl, rfl⟩
    · have h := ‹a ≤ b›
      have HD : Hid (decide (n ≤ a) = v) := Lib.hid (by rw [← HW.out]; congr 1; rw [Int.min_def, if_pos h])
      go_ret
      exact ⟨by rw [← HD.out]; rfl, rfl⟩
  · have e0 : decide (0 ≤ n) = false := by simpa using h0
    have HW : Hid (wi12 n a b = false) := Lib.hid (by rw [wi12, e0, Bool.false_and])
    go_enter Tryz.func27, Tryz.ntmps27
    go_wp2_with fail
    go_ret
    exact ⟨by rw [HW.out]; rfl, rfl⟩
set_option maxHeartbeats 4000000 in
theorem fits12_v (c : Ce) (x : Mc) (m : Mh) (w : World) : Calls Tryz.prog 15 #[cv c, mv x m] w fun e w' => e = .returned (.bool (fi12 c m)) ∧ Below w.heap.size w w' := by
  obtain ⟨cf, cs, ch⟩ := c
  have HB : Hid (Below w.heap.size w ((w.alloc (.cells #[.int .i64 cf, .int .i64 cs, .int .i64 ch] 44)).alloc (hcel x m))) := Lib.hid (new1.trans (new1.mono (by simp)))
  obtain ⟨v1, h1⟩ : ∃ v, wi12 cf m.f 1048576 = v := ⟨_, rfl⟩
  obtain ⟨v2, h2⟩ : ∃ v, wi12 cs m.s 256 = v := ⟨_, rfl⟩
  obtain ⟨v3, h3⟩ : ∃ v, wi12 ch m.h 1024 = v := ⟨_, rfl⟩
  have HV : Hid (fi12 (cf, cs, ch) m = (v1 && (v2 && v3))) := Lib.hid (by rw [fi12, h1, h2, h3])
  rw [HV.out]
  have H1 := fun w => Lib.hid (within12_v cf m.f 1048576 w)
  have H2 := fun w => Lib.hid (within12_v cs m.s 256 w)
  have H3 := fun w => Lib.hid (within12_v ch m.h 1024 w)
  rw [h1] at H1
  rw [h2] at H2
  rw [h3] at H3
  clear h1 h2 h3
  go_enter Tryz.func15, Tryz.ntmps15
  go_upto_region 1 with (fail)
  go_wp2_with fail
  refine (H1 _).out.mono ?_
  rintro e w' ⟨rfl, rfl⟩
  cases v1 with
  | false =>
    go_wp2_with fail
    go_ret
    exact ⟨rfl, HB.out⟩
  | true =>
    go_wp2_with fail
    refine (H2 _).out.mono ?_
    rintro e w' ⟨rfl, rfl⟩
    cases v2 with
    | false =>
      go_wp2_with fail
      go_ret
      exact ⟨rfl, HB.out⟩
    | true =>
      go_wp2_with fail
      refine (H3 _).out.mono ?_
      rintro e w' ⟨rfl, rfl⟩
      go_wp2_with fail
      go_ret
      exact ⟨by simp, HB.out⟩
end Go.Proofs.YtmgppdjbmhjmbaaGreat
namespace Go.Proofs.YtmgppdjbmhjmbaaGreat
open Go.RowKit
set_option maxRecDepth 100000
set_option linter.unusedSimpArgs false
set_option linter.unusedVariables false

end Go.Proofs.YtmgppdjbmhjmbaaGreat
