/-
  That the chapter's examples hold (the statements' 'awake' of layer 6); nothing that was there has changed.
-/
import Derived.Test.YtohbndjfnakelaaDoorPk
namespace Go.Proofs.YtohbndjfnakelaaDoor
open Go.RowKit
set_option maxRecDepth 100000
set_option linter.unusedSimpArgs false
set_option linter.unusedVariables false

theorem rv_lit (w : World) (L : List Vlu) (h : ∀ x ∈ L, VlOk x) (hl : L.length ≤ 1000000) : Rv (w.alloc (.cells (cev L).toArray 24)) (some ⟨w.heap.size, 0, none⟩) L.length L := by
  have h1 := World.ownsRow_lit (base := w.heap.size) (e := 24) (size := 3) w (cev L).toArray L.length (Nat.le_refl _) (by unfold maxLen; omega) (by simp [length_cev])
  exact (Rv.of_own (by simpa using h1) h).1
theorem pnum_v (n : Int) (w : World) : Calls Tryd.prog 32 #[.int .i64 n] w fun e w' => e = .returned (.agg #[.int .u8 1, .int .i64 n, .int .i64 0]) ∧ Below w.heap.size w w' := by
  go_enter Tryd.func32, Tryd.ntmps32
  go_wp2_with fail
  refine bodyPost_ret (v := .agg #[.int .u8 1, .int .i64 n, .int .i64 0]) (by simp [results, Tryd.results32, go_sem]) rfl ⟨rfl, new1⟩
set_option maxHeartbeats 2000000 in
theorem pawake_any (F : Fct) (KB : KPBytes F) (KR : KPRead F) (KA : KPAdd F) (w : World) (hw : F.p w) : Calls Tryd.prog 19 #[] w fun e w' => e = .returned (.bool true) ∧ Below w.heap.size w w' := by
  have B1 : Hid (poL [(1, 1, 0), (1, 1, 0)] = [2, 1, 1, 0, 0, 0, 0, 0, 0, 0, 1, 1, 0, 0, 0, 0, 0, 0, 0] ∧ poE [(1, 1, 0), (1, 1, 0)] = 0) := by unfold Hid; decide
  have B2 : Hid (poL [] = [0] ∧ poE [] = 0) := by unfold Hid; decide
  have T1 : Hid (rdP [33] 0 = ([], 0, 60)) := by unfold Hid; decide
  have T2 : Hid (rdP [1] 0 = ([], 0, 10)) := by unfold Hid; decide
  have A1 : Hid (adP [(1, 4, 0), (1, 5, 0)] (1, 5, 0) = ([(1, 4, 0), (1, 5, 0)], 1, 0)) := by unfold Hid; decide
  have S0 := Lib.hid ((Sx.start w).add F hw)
  clear hw
  go_enter Tryd.func19, Tryd.ntmps19
  go_wp2_with fail
  refine (pnum_v 1 _).mono ?_
  rintro e w1 ⟨rfl, hb1⟩
  have S1 := Lib.hid (S0.out.call hb1)
  clear hb1 S0
  go_wp2_with fail
  refine (pnum_v 1 _).mono ?_
  rintro e w2 ⟨rfl, hb2⟩
  have S2 := Lib.hid ((S1.out.call hb2).mk1 (.cells (cev [(1, 1, 0), (1, 1, 0)]).toArray 24))
  have R2 := Lib.hid (rv_lit w2 [(1, 1, 0), (1, 1, 0)] (by unfold VlOk; decide) (by decide))
  clear hb2 S1
  go_wp2_with fail
  refine (KB _ _ 2 [(1, 1, 0), (1, 1, 0)] _ S2.out.2.1 R2.out rfl (by decide)).mono ?_
  rintro e w3 ⟨A3, c3, rfl, ho3, hb3⟩
  rw [B1.out.1] at ho3 ⊢
  rw [B1.out.2]
  have S3 := Lib.hid ((S2.out.call hb3).add (fR A3 c3 [2, 1, 1, 0, 0, 0, 0, 0, 0, 0, 1, 1, 0, 0, 0, 0, 0, 0, 0]) (own_rd ho3 (byt_of rfl)))
  clear S2 hb3 ho3 R2 B1
  rw [show ([2, 1, 1, 0, 0, 0, 0, 0, 0, 0, 1, 1, 0, 0, 0, 0, 0, 0, 0] : List Int).length = 19 from rfl]
  go_wp2_with fail
  refine (KB _ _ 0 [] _ S3.out.2.2.1 (Rv.none_ _) rfl (by decide)).mono ?_
  rintro e w4 ⟨A4, c4, rfl, ho4, hb4⟩
  rw [B2.out.1] at ho4 ⊢
  rw [B2.out.2]
  have S4 := Lib.hid ((S3.out.call hb4).add (fR A4 c4 [0]) (own_rd ho4 (byt_of rfl)))
  clear S3 hb4 ho4 B2
  rw [show ([0] : List Int).length = 1 from rfl]
  go_wp2_with fail
  have P1 := Lib.hid (KR (some ⟨w4.heap.size, 0, none⟩) 1 1 [33] 0 _ (F.keep _ _ S4.out.2.2.2.1 new1) (rd_lit w4 [33] (byt_of rfl) (by decide)) rfl)
  rw [T1.out] at P1
  refine P1.out.mono ?_
  rintro e w5 ⟨A5, c5, rfl, h5, hb5⟩
  have S5 := Lib.hid (S4.out.call (below1 hb5))
  clear S4 hb5 P1 T1 h5
  go_wp2_with fail
  have P2 := Lib.hid (KR (some ⟨w5.heap.size, 0, none⟩) 1 1 [1] 0 _ (F.keep _ _ S5.out.2.2.2.1 new1) (rd_lit w5 [1] (byt_of rfl) (by decide)) rfl)
  rw [T2.out] at P2
  refine P2.out.mono ?_
  rintro e w6 ⟨A6, c6, rfl, h6, hb6⟩
  have S6 := Lib.hid (S5.out.call (below1 hb6))
  clear S5 hb6 P2 T2 h6
  go_wp2_with fail
  refine (pnum_v 4 _).mono ?_
  rintro e w7 ⟨rfl, hb7⟩
  have S7 := Lib.hid (S6.out.call hb7)
  clear hb7 S6
  go_wp2_with fail
  refine (pnum_v 5 _).mono ?_
  rintro e w8 ⟨rfl, hb8⟩
  have S8 := Lib.hid ((S7.out.call hb8).mk1 (.cells (cev [(1, 4, 0), (1, 5, 0)]).toArray 24))
  have R8 := Lib.hid (rv_lit w8 [(1, 4, 0), (1, 5, 0)] (by unfold VlOk; decide) (by decide))
  clear hb8 S7
  go_wp2_with fail
  refine (pnum_v 5 _).mono ?_
  rintro e w9 ⟨rfl, hb9⟩
  have S9 := Lib.hid ((S8.out.call hb9).add (fW _ _ _) (R8.out.keep hb9))
  clear hb9 S8 R8
  go_wp2_with fail
  have P3 := Lib.hid (KA _ 2 2 [(1, 4, 0), (1, 5, 0)] 1 5 0 _ S9.out.2.2.2.2.1 S9.out.2.1 rfl (by decide) (by unfold VlOk; decide))
  rw [A1.out] at P3
  refine P3.out.mono ?_
  rintro e w10 ⟨A10, c10, rfl, ho10, hb10⟩
  have hl10 := (Rv.of_own ho10 (by unfold VlOk; decide)).1.len
  have S10 := Lib.hid (S9.out.call hb10)
  clear S9 hb10 P3 A1 ho10
  have k1 : (convert 26 9 (.slice A3 19 c3)).run Tryd.prog w10 = .ok (.string ⟨#[2, 1, 1, 0, 0, 0, 0, 0, 0, 0, 1, 1, 0, 0, 0, 0, 0, 0, 0]⟩) w10 := rd_string (P := Tryd.prog) S10.out.2.2.2.1 26 9 5 Tryd.underlying26 Tryd.underlying5 Tryd.underlying9
  have k2 : (convert 26 9 (.slice A4 1 c4)).run Tryd.prog w10 = .ok (.string ⟨#[0]⟩) w10 := rd_string (P := Tryd.prog) S10.out.2.2.1 26 9 5 Tryd.underlying26 Tryd.underlying5 Tryd.underlying9
  rw [show ([(1, 4, 0), (1, 5, 0)] : List Vlu).length = 2 from rfl]
  go_wp2_with fail
  · go_ret
    exact ⟨rfl, S10.out.1⟩
  · rename_i h
    exact absurd (by rw [show ((⟨#[2]⟩ : ByteArray) ++ ⟨#[1, 1, 0, 0, 0, 0, 0, 0, 0]⟩ ++ ⟨#[1, 1, 0, 0, 0, 0, 0, 0, 0]⟩) = strOfNums [2, 1, 1, 0, 0, 0, 0, 0, 0, 0, 1, 1, 0, 0, 0, 0, 0, 0, 0] from by kernel_rfl, Lib.strOfNums_toList]; kernel_rfl) h
end Go.Proofs.YtohbndjfnakelaaDoor
