/-
  What package value's table of widths reads as, and what value.field and value.getField answer: a contract for each width of the table.
-/
import Derived.Test.YtndgiehipajghaaDoorVal2
namespace Go.Proofs.YtndgiehipajghaaDoor
open Go.RowKit
set_option linter.unusedSimpArgs false

/-- The table of widths, as the program's text lays it. -/
def GW (w : World) : Prop := w.cell? ⟨0, 0, none⟩ = some (.int .i64 0) ∧ w.cell? ⟨0, 1, none⟩ = some (.int .i64 0) ∧ w.cell? ⟨0, 2, none⟩ = some (.int .i64 8) ∧
  w.cell? ⟨0, 3, none⟩ = some (.int .i64 0) ∧ w.cell? ⟨0, 4, none⟩ = some (.int .i64 3) ∧ w.cell? ⟨0, 5, none⟩ = some (.int .i64 3)
theorem GW.keep {w w' : World} (h : GW w) (hb : Below w.heap.size w w') : GW w' := by
  obtain ⟨h0, h1, h2, h3, h4, h5⟩ := h
  exact ⟨(hb.cell (cell_lt h0)).trans h0, (hb.cell (cell_lt h1)).trans h1, (hb.cell (cell_lt h2)).trans h2, (hb.cell (cell_lt h3)).trans h3, (hb.cell (cell_lt h4)).trans h4, (hb.cell (cell_lt h5)).trans h5⟩
abbrev fG : Fct := ⟨GW, fun _ _ h hb => h.keep hb⟩

theorem field_0 (n : Int) (w : World) : Calls Tryd.prog 22 #[.int .i64 n, .int .i64 0] w fun e w' => e = .returned (.slice none 0 0) ∧ w = w' := by
  go_enter Tryd.func22, Tryd.ntmps22
  go_wp2_with fail
  go_ret
  exact ⟨rfl, rfl⟩
theorem field_8 (n : Int) (w : World) : Calls Tryd.prog 22 #[.int .i64 n, .int .i64 8] w fun e w' => e = .returned (.slice (some ⟨w.heap.size, 0, none⟩) 8 8) ∧
      w'.ownsRow w.heap.size 5 1 (.slice (some ⟨w.heap.size, 0, none⟩) 8 8) 8 (cel (digs n 8)) ∧ Below w.heap.size w w' := by
  go_enter Tryd.func22, Tryd.ntmps22
  go_wp2_with fail
  refine (signed_any _ _).mono ?_
  rintro e w1 ⟨rfl, ho1, hb1⟩
  go_wp2_with fail
  go_ret
  exact ⟨rfl, ho1, hb1⟩
theorem field_3 (n : Int) (w : World) (h1 : -1048576 ≤ n) (h2 : n ≤ 1048576) : Calls Tryd.prog 22 #[.int .i64 n, .int .i64 3] w fun e w' => ∃ A c, e = .returned (.slice A 3 c) ∧
      w'.ownsRow w.heap.size 5 1 (.slice A 3 c) 3 (cel (digs (n + 1048576) 3)) ∧ Below w.heap.size w w' := by
  have hp : p256 3 = 16777216 := by decide
  have HP : Hid (putE 3 (n + 1048576) = 0 ∧ putL 3 (n + 1048576) = digs (n + 1048576) 3) := put_yes (k := 3) (by omega) (by omega) (by omega) (by rw [hp]; omega)
  clear hp
  go_enter Tryd.func22, Tryd.ntmps22
  go_wp2_with fail
  refine (put_any 3 (n + 1048576) _).mono ?_
  rintro e w1 ⟨A, c, rfl, ho1, hb1⟩
  rw [HP.out.1, HP.out.2, length_digs]
  rw [HP.out.2, length_digs] at ho1
  go_wp2_with fail
  go_ret
  exact ⟨A, c, rfl, ho1, hb1⟩

theorem gf_0 (A : Option Addr) (c m : Nat) (p : Int) (w : World) : Calls Tryd.prog 27 #[.slice A m c, .int .i64 p, .int .i64 0] w fun e w' => e = .returned (.tuple #[.int .i64 0, .int .i64 p, .int .i64 0]) ∧ w = w' := by
  go_enter Tryd.func27, Tryd.ntmps27
  go_wp2_with fail
  go_ret3
  exact ⟨rfl, rfl⟩
theorem gf_8 (A : Option Addr) (c m : Nat) (l : List Int) (p x n e0 : Int) (w : World) (hr : Rd w A c l) (hm : l.length = m) (h : sigV l p = x ∧ cutN l p 8 = n ∧ cutE l p 8 = e0) : Calls Tryd.prog 27 #[.slice A m c, .int .i64 p, .int .i64 8] w fun e w' => e = .returned (.tuple #[.int .i64 x, .int .i64 n, .int .i64 e0]) ∧ Below w.heap.size w w' := by
  subst hm
  have H := Lib.hid h
  clear h
  go_enter Tryd.func27, Tryd.ntmps27
  go_wp2_with fail
  refine (sig_any A c l p _ hr).mono ?_
  rintro e w1 ⟨rfl, hb1⟩
  rw [H.out.1, H.out.2.1, H.out.2.2]
  go_wp2_with fail
  go_ret3
  exact ⟨rfl, hb1⟩
theorem gf_3 (A : Option Addr) (c m : Nat) (l : List Int) (p x n e0 : Int) (w : World) (hr : Rd w A c l) (hm : l.length = m) (h : getV l p 3 = x ∧ getN l p 3 = n ∧ getE l p 3 = e0) (hx : 0 ≤ x ∧ x < 16777216) : Calls Tryd.prog 27 #[.slice A m c, .int .i64 p, .int .i64 3] w fun e w' => e = .returned (.tuple #[.int .i64 (x - 1048576), .int .i64 n, .int .i64 e0]) ∧ Below w.heap.size w w' := by
  subst hm
  obtain ⟨hx1, hx2⟩ := hx
  have H := Lib.hid h
  clear h
  go_enter Tryd.func27, Tryd.ntmps27
  go_wp2_with fail
  refine (get_any A c l p 3 _ hr).mono ?_
  rintro e w1 ⟨rfl, hb1⟩
  rw [H.out.1, H.out.2.1, H.out.2.2]
  go_wp2_with fail
  go_ret3
  exact ⟨rfl, hb1⟩

/-- A value's bytes, and its error. -/
def valB (k a b : Int) : List Int := if k = 1 then 1 :: digs a 8 else 2 :: (digs (a + 1048576) 3 ++ digs (b + 1048576) 3)
def bytE (k a b : Int) : Int := if mayB k a b then 0 else 30
def bytL (k a b : Int) : List Int := if mayB k a b then valB k a b else []
theorem vbytes_f (k a b : Int) (w : World) (h : mayB k a b = false) : Calls Tryd.prog 10 #[.agg #[.int .u8 k, .int .i64 a, .int .i64 b]] w fun e w' => e = .returned (.tuple #[.slice none 0 0, .int .i64 30]) ∧ Below w.heap.size w w' := by
  have H := Lib.hid h
  clear h
  go_enter Tryd.func10, Tryd.ntmps10
  go_wp2_with fail
  refine (vmay_v _ _ _ _ _ H.out).mono ?_
  rintro e w1 ⟨rfl, hb1⟩
  go_wp2_with fail
  go_ret2
  exact ⟨rfl, below1 hb1⟩
end Go.Proofs.YtndgiehipajghaaDoor
