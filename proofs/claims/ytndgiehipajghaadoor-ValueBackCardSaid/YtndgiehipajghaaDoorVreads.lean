/-
  The walk of ValueReads: from any bytes, at any place, it returns true; nothing that was there has changed.
-/
import Derived.Test.YtndgiehipajghaaDoorVrread
namespace Go.Proofs.YtndgiehipajghaaDoor
open Go.RowKit
set_option linter.unusedSimpArgs false
set_option linter.unusedVariables false

theorem vread_m (A : Option Addr) (m c : Nat) (l : List Int) (p k a b n e0 : Int) (w : World) (hr : Rd w A c l) (hm : l.length = m) (hw : GW w) (h : rdT l p = (k, a, b, n, e0)) :
    Calls Tryd.prog 19 #[.slice A m c, .int .i64 p] w fun e w' => e = .returned (.tuple #[.agg #[.int .u8 k, .int .i64 a, .int .i64 b], .int .i64 n, .int .i64 e0]) ∧ Below w.heap.size w w' := by
  subst hm; exact vread_v A c l p k a b n e0 w hr hw h

set_option maxRecDepth 100000 in
set_option maxHeartbeats 2000000 in
theorem reads_walk (A : Option Addr) (c : Nat) (l : List Int) (p : Int) (w : World) (hr : Rd w A c l) (hw : GW w) :
    Calls Tryd.prog 4 #[.slice A l.length c, .int .i64 p] w fun e w' => e = .returned (.bool true) ∧ Below w.heap.size w w' := by
  obtain ⟨i0, hi, hz0, hz1, hz2⟩ := info_parts Tryd.info5
  have hlen := hr.len
  by_cases hl : 2000 < l.length
  · have hl' : (2000 : Int) < (l.length : Int) := by omega
    clear hl
    go_enter Tryd.func4, Tryd.ntmps4
    go_wp2_with fail
    go_ret
    exact ⟨rfl, Below.refl _ _⟩
  have hl' : (l.length : Int) ≤ 2000 := by omega
  have HL : Hid (l.length ≤ 2000) := Nat.not_lt.1 hl
  clear hl
  obtain ⟨k, a, b, n, e0, hT⟩ : ∃ k a b n e0, rdT l p = (k, a, b, n, e0) := ⟨_, _, _, _, _, rfl⟩
  have T := Lib.hid hT
  have q := eq_val 9998 k a b k a b true (by simp)
  have G := Lib.hid hw
  have R := Lib.hid hr
  clear hT hw hr
  have hown0 : (w.alloc (.cells #[] 5)).ownsRow w.heap.size 5 1 (.slice (some ⟨w.heap.size, 0, none⟩) 0 0) 0 (cel []) := World.ownsRow_lit w #[] 0 (Nat.le_refl _) (Nat.zero_le _) rfl
  go_enter Tryd.func4, Tryd.ntmps4
  go_wp2_with (at_builtin; refine wpList_append_rd _ rfl _ _ 26 rfl w.heap.size 5 i0 Tryd.underlying26 hi hz0 hz1 hz2 _ 0 [] rfl hown0 A l.length c l rfl (R.out.alloc _) rfl (by omega) (by simp) ?_)
  intro A1 c1 w1 ho1 _ hb1 _
  have B1 := Lib.hid (new1.trans hb1)
  have R1 : Hid (Rd w1 A1 c1 l) := by
    have := own_rd ho1 (by simpa using R.out.byt)
    simpa [Hid] using this
  clear ho1 hb1 hown0
  have S1 := Lib.hid (((((Sx.start w).add fG G.out).add (fR A c l) R.out).call B1.out).add (fR A1 c1 l) R1.out)
  clear B1 R1 G R
  go_wp2_with fail
  refine (vread_m A1 _ c1 l p _ _ _ _ _ _ S1.out.2.1 (by omega) S1.out.2.2.2.1 T.out).mono ?_
  rintro e w2 ⟨rfl, hb2⟩
  have S2 := Lib.hid ((S1.out.call hb2).mkV k a b)
  clear hb2 S1
  go_wp2_with fail
  refine (r3read_v A c l p _ _ _ _ _ _ S2.out.2.2.2.1 HL.out T.out).mono ?_
  rintro e w3 ⟨rfl, hb3⟩
  have S3 := Lib.hid ((S2.out.call hb3).mkV k a b)
  clear hb3 S2
  obtain ⟨-, -, ⟨y0, y1, y2, y3, -⟩, -⟩ := S3.out
  simp at y0 y1 y2 y3
  have k1 := rd_string (P := Tryd.prog) S3.out.2.2.2.1 26 9 5 Tryd.underlying26 Tryd.underlying5 Tryd.underlying9
  have k2 := rd_string (P := Tryd.prog) S3.out.2.2.2.2.1 26 9 5 Tryd.underlying26 Tryd.underlying5 Tryd.underlying9
  go_wp2_with fail
  go_ret
  exact ⟨rfl, S3.out.1⟩
end Go.Proofs.YtndgiehipajghaaDoor
