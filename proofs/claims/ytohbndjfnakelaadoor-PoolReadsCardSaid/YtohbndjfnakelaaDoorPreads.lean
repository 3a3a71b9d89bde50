/-
  The walk of PoolReads: for all bytes and every place it returns true; nothing that was there has changed.
-/
import Derived.Test.YtohbndjfnakelaaDoorPk
namespace Go.Proofs.YtohbndjfnakelaaDoor
open Go.RowKit
set_option maxRecDepth 100000
set_option linter.unusedSimpArgs false
set_option linter.unusedVariables false

set_option maxHeartbeats 1000000 in
theorem preads_walk (F : Fct) (K : KPRead F) (A : Option Addr) (c n : Nat) (l : List Int) (p : Int) (w : World) (hr : Rd w A c l) (hn : l.length = n) (hw : F.p w) : Calls Tryd.prog 4 #[.slice A n c, .int .i64 p] w fun e w' => e = .returned (.bool true) ∧ Below w.heap.size w w' := by
  subst hn
  have hlen := hr.len
  by_cases hl : l.length ≤ 1500
  · have P1 := fun A c w hw hr => Lib.hid (K A c l.length l p w hw hr rfl)
    have P2 := fun A c w hr => Lib.hid (r6read_v A c l.length l p w hr rfl (by omega))
    have S0 := Lib.hid (((Sx.start w).add F hw).add (fR A c l) hr)
    generalize rdP l p = R at *
    obtain ⟨M, q, e0⟩ := R
    simp only at P1 P2
    obtain ⟨i0, hi, hz0, hz1, hz2⟩ := info_parts Tryd.info5
    have hb := Lib.hid hr.byt
    clear hw hr
    go_enter Tryd.func4, Tryd.ntmps4
    go_wp2_with (at_builtin; refine wpList_append_rd _ rfl _ _ 26 rfl w.heap.size 5 i0 Tryd.underlying26 hi hz0 hz1 hz2 _ 0 [] rfl (World.ownsRow_lit w #[] 0 (Nat.le_refl _) (Nat.zero_le _) rfl) A l.length c l rfl (Rd.alloc S0.out.2.1 _) rfl (by omega) (by simp) ?_)
    intro A1 c1 w1 ho1 hg1 hb1 _
    have S1 := Lib.hid ((S0.out.call (show Below w.heap.size w w1 from new1.trans hb1)).add (fR A1 c1 l) (own_rd (by simpa using ho1) hb.out))
    clear S0 ho1 hg1 hb1
    have hl1 := S1.out.2.1.le
    go_wp2_with fail
    refine (P1 A1 c1 _ S1.out.2.2.2.1 S1.out.2.1).out.mono ?_
    rintro e w2 ⟨A2, c2, rfl, h2, hb2⟩
    have hl2 := h2.len
    have S2 := Lib.hid ((S1.out.call hb2).add (fW A2 c2 M) h2)
    clear S1 h2 hb2
    go_wp2_with fail
    refine (P2 A c _ S2.out.2.2.2.1).out.mono ?_
    rintro e w3 ⟨A3, c3, rfl, h3, hb3⟩
    have S3 := Lib.hid ((S2.out.call hb3).add (fW A3 c3 M) h3)
    clear S2 h3 hb3
    go_wp2_with fail
    refine (r3same_any A2 A3 c2 c3 _ _ M M _ S3.out.2.2.1 S3.out.2.1 rfl rfl).mono ?_
    rintro e w4 ⟨rfl, hb4⟩
    rw [decide_eq_true rfl]
    have S4 := Lib.hid (S3.out.call hb4)
    clear S3 hb4
    have k1 := rd_string (P := Tryd.prog) S4.out.2.2.2.1 26 9 5 Tryd.underlying26 Tryd.underlying5 Tryd.underlying9
    have k2 := rd_string (P := Tryd.prog) S4.out.2.2.2.2.1 26 9 5 Tryd.underlying26 Tryd.underlying5 Tryd.underlying9
    generalize strOfNums l = s at *
    go_wp2_with fail
    go_ret
    exact ⟨rfl, S4.out.1⟩
  · go_enter Tryd.func4, Tryd.ntmps4
    go_wp2_with fail
    go_ret
    exact ⟨rfl, Below.refl _ _⟩
end Go.Proofs.YtohbndjfnakelaaDoor
