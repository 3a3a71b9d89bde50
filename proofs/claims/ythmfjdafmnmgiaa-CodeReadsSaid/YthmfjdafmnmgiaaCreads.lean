/-
  The walk of CodeReads: for all bytes and every place it returns true; nothing that was there has changed.
-/
import Derived.Test.YthmfjdafmnmgiaaCk
import Derived.Test.YthmfjdafmnmgiaaCm
namespace Go.Proofs.Ythmfjdafmnmgiaa
open Go.RowKit
set_option maxRecDepth 100000
set_option linter.unusedSimpArgs false
set_option linter.unusedVariables false

theorem rdC_ok {l : List Int} (hb : Byt l) (p : Int) : ∀ x ∈ (rdC l p).2.1, InOk x := by
  intro x hx
  by_cases h : (rdC l p).1 = 0
  · exact (rdC_inv hb (L := (rdC l p).2.1) (q := (rdC l p).2.2) (by rw [← h])).2.1 x hx
  · have : (rdC l p).2.1 = [] := by
      revert h
      unfold rdC
      split
      · exact fun _ => rfl
      · split
        · exact fun _ => rfl
        · simp only
          split
          · exact fun _ => rfl
          · exact fun h => (rdS_err _ _ _ h).1
    rw [this] at hx
    cases hx
theorem r5read_k (A : Option Addr) (c n : Nat) (l : List Int) (p : Int) (w : World) (hr : Rd w A c l) (hn : l.length = n) : Calls Try.prog 5 #[.slice A n c, .int .i64 p] w fun e w' => ∃ A' c', e = .returned (.tuple #[.slice A' (rdC l p).2.1.length c', .int .i64 (rdC l p).2.2, .int .i64 (rdC l p).1]) ∧ Ri w' A' c' (rdC l p).2.1 ∧ Below w.heap.size w w' := by
  refine (r5read_any A c n l p w hr hn).mono ?_
  rintro e w1 ⟨A', c', rfl, ho, hbl⟩
  exact ⟨A', c', rfl, (Ri.of_own ho (rdC_ok hr.byt p)).1, hbl⟩
set_option maxHeartbeats 1000000 in
theorem creads_walk (F : Fct) (K : KRead F) (A : Option Addr) (c n : Nat) (l : List Int) (p : Int) (w : World) (hr : Rd w A c l) (hn : l.length = n) (hw : F.p w) : Calls Try.prog 3 #[.slice A n c, .int .i64 p] w fun e w' => e = .returned (.bool true) ∧ Below w.heap.size w w' := by
  subst hn
  have hlen := hr.len
  by_cases hl : l.length ≤ 1500
  · have P1 := fun A c w hw hr => Lib.hid (K A c l.length l p w hw hr rfl)
    have P2 := fun A c w hr => Lib.hid (r5read_k A c l.length l p w hr rfl)
    have S0 := Lib.hid (((Sx.start w).add F hw).add (fR A c l) hr)
    generalize rdC l p = R at *
    obtain ⟨e0, M, q⟩ := R
    simp only at P1 P2
    have hinfo := Try.info5
    rw [Option.map_eq_some_iff] at hinfo
    obtain ⟨i0, hi, hz⟩ := hinfo
    simp only [Prod.mk.injEq] at hz
    obtain ⟨hz0, hz1, hz2⟩ := hz
    have hb := Lib.hid hr.byt
    clear hw hr
    go_enter Try.func3, Try.ntmps3
    go_wp2_with (at_builtin; refine wpList_append_rd _ rfl _ _ 22 rfl w.heap.size 5 i0 Try.underlying22 hi hz0 hz1 hz2 _ 0 [] rfl (World.ownsRow_lit w #[] 0 (Nat.le_refl _) (Nat.zero_le _) rfl) A l.length c l rfl (Rd.alloc S0.out.2.1 _) rfl (by omega) (by simp) ?_)
    intro A1 c1 w1 ho1 hg1 hb1 _
    have S1 := Lib.hid ((S0.out.call (show Below w.heap.size w w1 from new1.trans hb1)).add (fR A1 c1 l) (own_rd (by simpa using ho1) hb.out))
    clear S0 ho1 hg1 hb1
    have hl1 := S1.out.2.1.le
    go_wp2_with fail
    refine (P1 A1 c1 _ S1.out.2.2.2.1 S1.out.2.1).out.mono ?_
    rintro e w2 ⟨A2, c2, rfl, h2, hb2⟩
    have hl2 := h2.len
    have S2 := Lib.hid ((S1.out.call hb2).add (fT A2 c2 M) h2)
    clear S1 h2 hb2
    go_wp2_with fail
    refine (P2 A c _ S2.out.2.2.2.1).out.mono ?_
    rintro e w3 ⟨A3, c3, rfl, h3, hb3⟩
    have S3 := Lib.hid ((S2.out.call hb3).add (fT A3 c3 M) h3)
    clear S2 h3 hb3
    go_wp2_with fail
    refine (r5same_any A2 A3 c2 c3 _ _ M M _ S3.out.2.2.1 S3.out.2.1 rfl rfl).mono ?_
    rintro e w4 ⟨rfl, hb4⟩
    rw [decide_eq_true rfl]
    have S4 := Lib.hid (S3.out.call hb4)
    clear S3 hb4
    have k1 := rd_string (P := Try.prog) S4.out.2.2.2.1 22 9 5 Try.underlying22 Try.underlying5 Try.underlying9
    have k2 := rd_string (P := Try.prog) S4.out.2.2.2.2.1 22 9 5 Try.underlying22 Try.underlying5 Try.underlying9
    generalize strOfNums l = s at *
    go_wp2_with fail
    go_ret
    exact ⟨rfl, S4.out.1⟩
  · go_enter Try.func3, Try.ntmps3
    go_wp2_with fail
    go_ret
    exact ⟨rfl, Below.refl _ _⟩
end Go.Proofs.Ythmfjdafmnmgiaa
