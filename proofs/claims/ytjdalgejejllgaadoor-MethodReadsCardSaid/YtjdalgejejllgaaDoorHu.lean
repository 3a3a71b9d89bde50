/-
  The walk of MethodReads: for all bytes and every place it returns true; nothing that was there has changed.
-/
import Derived.Test.YtjdalgejejllgaaDoorHx
import Derived.Test.YtjdalgejejllgaaDoorHq
import Derived.Test.YtjdalgejejllgaaDoorHs
namespace Go.Proofs.YtjdalgejejllgaaDoor
open Go.RowKit
set_option maxRecDepth 100000
set_option linter.unusedSimpArgs false
set_option linter.unusedVariables false

set_option maxHeartbeats 4000000 in
theorem mreads_walk (A : Option Addr) (c n : Nat) (l : List Int) (p : Int) (w : World) (hr : Rd w A c l) (hn : l.length = n) (hw : GM w) : Calls Tryd.prog 4 #[.slice A n c, .int .i64 p] w fun e w' => e = .returned (.bool true) ∧ Below w.heap.size w w' := by
  subst hn
  have hlen := hr.len
  by_cases hl : l.length ≤ 1500
  · obtain ⟨R, hR⟩ : ∃ R, rdQ l p = R := ⟨_, rfl⟩
    obtain ⟨m, q, e0⟩ := R
    have P1 := fun A c w hr hw => Lib.hid (mread_v A c l.length l p _ w hr rfl hw hR)
    have P2 := fun A c w hr => Lib.hid (r7read_v A c l.length l p _ w hr rfl (by omega) hR)
    simp only at P1 P2
    have HA : Hid (∀ ad, A = some ad → 0 < l.length → ad.block < w.heap.size) := fun ad h0 h1 => rd_lt hr h0 h1
    have S0 := Lib.hid (((Sx.start w).add fGM hw).add (fR A c l) hr)
    obtain ⟨i0, hi, hz0, hz1, hz2⟩ := info_parts Tryd.info5
    have hb := Lib.hid hr.byt
    clear hw hr hR
    go_enter Tryd.func4, Tryd.ntmps4
    go_wp2_with (at_builtin; refine wpList_append_rd _ rfl _ _ 22 rfl w.heap.size 5 i0 Tryd.underlying22 hi hz0 hz1 hz2 _ 0 [] rfl (World.ownsRow_lit w #[] 0 (Nat.le_refl _) (Nat.zero_le _) rfl) A l.length c l rfl (Rd.alloc S0.out.2.1 _) rfl (by omega) (by simp) ?_)
    intro A1 c1 w1 ho1 hg1 hb1 _
    have S1 := Lib.hid ((S0.out.call (show Below w.heap.size w w1 from new1.trans hb1)).add (fR A1 c1 l) (own_rd (by simpa using ho1) hb.out))
    clear S0 ho1 hg1 hb1
    have HA1 : Hid (∀ ad, A1 = some ad → 0 < l.length → ad.block < w1.heap.size) := fun ad h0 h1 => rd_lt S1.out.2.1 h0 h1
    have hl1 := S1.out.2.1.le
    have hs1 := S1.out.1.size
    go_wp2_with fail
    refine (P1 A1 c1 _ S1.out.2.1 S1.out.2.2.2.1).out.mono ?_
    rintro e w2 ⟨x2, rfl, hk2, ho2, h2, hb2⟩
    have HO2 := Lib.hid ho2
    have HK2 := Lib.hid hk2
    have S2 := Lib.hid (((S1.out.call hb2).add (fH x2 m) h2).mkM x2 m)
    have HO3 := Lib.hid (own_below ho2 (new1 (a := hcel x2 m)) (Nat.le_refl _))
    have hlt2 := (ho2.lt)
    have HLT := Lib.hid hlt2
    have hMl := h2.la
    clear S1 h2 hb2 hk2 ho2 hlt2 HO2 P1
    go_wp2_with fail
    refine (P2 A c _ S2.out.2.2.2.2.1).out.mono ?_
    rintro e w3 ⟨x3, rfl, h3, hb3⟩
    have S3 := Lib.hid (((S2.out.call hb3).add (fH x3 m) h3).mkM x3 m)
    have HO4 := Lib.hid (own_below (own_below HO3.out hb3 (Nat.le_refl _)) (new1 (a := hcel x3 m)) (Nat.le_refl _))
    clear S2 h3 hb3 P2 HO3
    obtain ⟨-, ⟨y0, y1, y2, y3, y4, y5, y6, y7, y8⟩, -, ⟨z0, z1, z2, z3, z4, z5, z6, z7, z8⟩, -⟩ := S3.out
    go_wp2_with fail
    refine (r7sam_v x2 x3 m m true _ S3.out.2.2.2.2.1 S3.out.2.2.1 (mS_self m)).mono ?_
    rintro e w4 ⟨rfl, hb4⟩
    have S4 := Lib.hid (S3.out.call hb4)
    have HO5 := Lib.hid (own_below HO4.out hb4 (Nat.le_refl _))
    clear S3 hb4 HO4 y0 y1 y2 y3 y4 y5 y6 y7 y8 z0 z1 z2 z3 z4 z5 z6 z7 z8
    obtain ⟨-, ⟨y0, y1, y2, y3, y4, y5, y6, y7, y8⟩, -, ⟨z0, z1, z2, z3, z4, z5, z6, z7, z8⟩, -⟩ := S4.out
    have hk := HK2.out
    rw [hk] at z8
    obtain ⟨s, hs⟩ : ∃ s, strOfNums l = s := ⟨_, rfl⟩
    have k1 := rd_string (P := Tryd.prog) S4.out.2.2.2.2.2.1 22 9 5 Tryd.underlying22 Tryd.underlying5 Tryd.underlying9
    have k2 := rd_string (P := Tryd.prog) S4.out.2.2.2.2.2.2.1 22 9 5 Tryd.underlying22 Tryd.underlying5 Tryd.underlying9
    rw [hs] at k1 k2
    have HS := Lib.hid hs
    have HM : Hid (w4.cell? ⟨w2.heap.size, 0, none⟩ = some (.slice x2.A m.a.length x2.c) ∧ w2.heap.size < w4.heap.size) := ⟨z1, z0⟩
    have W4 : Hid (Below w.heap.size w w4 ∧ Rd w4 A1 c1 l ∧ Rd w4 A c l) := ⟨S4.out.1, S4.out.2.2.2.2.2.1, S4.out.2.2.2.2.2.2.1⟩
    clear hs S4
    go_wp2_with fail
    clear k1 k2 y0 y1 y2 y3 y4 y5 y6 y7 y8 z0 z1 z2 z3 z4 z5 z6 z7 z8 hk HK2
    generalize m.a.length = M at *
    generalize x2.A = AA at *
    generalize x2.c = cc at *
    generalize w2.heap.size = g2 at *
    go_loopw [13] (fun i wr => ∃ (j : Nat) (xs : List Value), j ≤ M ∧ i = .int .i64 j ∧ Hid (wr.ownsRow w1.heap.size 5 1 (.slice AA M cc) M xs) ∧ Hid (wr.cell? ⟨g2, 0, none⟩ = some (.slice AA M cc)) ∧ Hid (Below w.heap.size w wr ∧ Rd wr A1 c1 l ∧ Rd wr A c l)) (fun i _ => M - (intOf i).toNat)
    case atStart => exact ⟨0, _, by omega, rfl, HO5, Lib.hid HM.out.1, W4⟩
    case round =>
      obtain ⟨j, xs, hj, rfl, HO, HZ, HW⟩ := hrel
      clear HO5 W4
      have hz := HZ.out
      by_cases h1 : j < M
      · obtain ⟨g, hgA, hgb⟩ := own_some HO.out (by omega)
        subst hgA
        have hgl := HLT.out g rfl
        have hxl : xs.length = M := by simpa using HO.out.1
        have c0 := HO.out.cellAt j (by omega)
        have f0 := HO.out.frozenAt j
        rw [List.getElem?_eq_getElem (by omega)] at c0
        have HO6 := Lib.hid (HO.out.stored j (.int .u8 77)).1
        have HZ6 : Hid ((wr.setCell ⟨g, j, none⟩ (.int .u8 77)).cell? ⟨g2, 0, none⟩ = some (.slice (some ⟨g, 0, none⟩) M cc)) := by
          rw [Hid, World.cell?_setCell_other _ _ _ _ (fun e => by injection e with e; omega)]; exact hz
        have HW6 : Hid (Below w.heap.size w (wr.setCell ⟨g, j, none⟩ (.int .u8 77)) ∧ Rd (wr.setCell ⟨g, j, none⟩ (.int .u8 77)) A1 c1 l ∧ Rd (wr.setCell ⟨g, j, none⟩ (.int .u8 77)) A c l) :=
          ⟨HW.out.1.setCell (p := ⟨g, j, none⟩) (by show w.heap.size ≤ g; omega) _, HW.out.2.1.setc (fun ad h0 h2 => by have := HA1.out ad h0 h2; show ad.block ≠ g; omega) _, HW.out.2.2.setc (fun ad h0 h2 => by have := HA.out ad h0 h2; show ad.block ≠ g; omega) _⟩
        clear HO HZ HW
        go_wp2_with fail
        go_roundw
        case rel => exact ⟨j + 1, _, by omega, by go_num, HO6, HZ6, HW6⟩
        case measure => simp [intOf]; omega
      · have k1 := rd_string (P := Tryd.prog) HW.out.2.1 22 9 5 Tryd.underlying22 Tryd.underlying5 Tryd.underlying9
        have k2 := rd_string (P := Tryd.prog) HW.out.2.2 22 9 5 Tryd.underlying22 Tryd.underlying5 Tryd.underlying9
        rw [HS.out] at k1 k2
        go_wp2_with fail
        go_ret
        exact ⟨rfl, HW.out.1⟩
  · go_enter Tryd.func4, Tryd.ntmps4
    go_wp2_with fail
    go_ret
    exact ⟨rfl, Below.refl _ _⟩
end Go.Proofs.YtjdalgejejllgaaDoor
