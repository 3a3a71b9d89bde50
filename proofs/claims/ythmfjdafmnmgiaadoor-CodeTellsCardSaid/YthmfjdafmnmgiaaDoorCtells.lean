/-
  The walk of CodeTells over its contracts: for all instructions it returns true; nothing that was there has changed.
-/
import Derived.Test.YthmfjdafmnmgiaaDoorCk
namespace Go.Proofs.YthmfjdafmnmgiaaDoor
open Go.RowKit
set_option maxRecDepth 100000
set_option linter.unusedSimpArgs false
set_option linter.unusedVariables false

theorem r5bytes_k (A : Option Addr) (c m : Nat) (L : List Ins) (w : World) (hr : Ri w A c L) (hm : L.length = m) : Calls Tryd.prog 9 #[.slice A m c] w fun e w' => ∃ A' c', e = .returned (.tuple #[.slice A' (byL L).length c', .int .i64 (cdE L)]) ∧ w'.ownsRow w.heap.size 5 1 (.slice A' (byL L).length c') (byL L).length (cel (byL L)) ∧ Below w.heap.size w w' := by
  cases h : codM L with
  | true =>
    rw [byL, if_pos h, cdE, if_pos h]
    exact r5bytes_t A c m L w hr hm h
  | false =>
    rw [byL, if_neg (by rw [h]; decide), cdE, if_neg (by rw [h]; decide)]
    refine (r5bytes_f A c m L w hr hm h).mono ?_
    rintro e w1 ⟨rfl, hb⟩
    exact ⟨none, 0, rfl, World.ownsRow_nil _ _ _ _, hb⟩
theorem r5text_k (A : Option Addr) (c m : Nat) (L : List Ins) (w : World) (hr : Ri w A c L) (hm : L.length = m) : Calls Tryd.prog 11 #[.slice A m c] w fun e w' => e = .returned (.tuple #[.string (strOfNums (txL L)), .int .i64 (cdE L)]) ∧ Below w.heap.size w w' := by
  cases h : codM L with
  | true =>
    rw [txL, if_pos h, cdE, if_pos h]
    exact r5text_t A c m L w hr hm h
  | false =>
    rw [txL, if_neg (by rw [h]; decide), cdE, if_neg (by rw [h]; decide)]
    exact r5text_f A c m L w hr hm h
theorem byL_byt {L : List Ins} (h0 : ∀ x ∈ L, InOk x) : Byt (byL L) := by
  unfold byL
  split
  · rename_i h
    simp only [codM, Bool.and_eq_true, decide_eq_true_eq] at h
    intro y hy
    rw [codB] at hy
    rcases List.mem_cons.1 hy with rfl | hy
    · omega
    · obtain ⟨x, hx, hy⟩ := List.mem_flatMap.1 hy
      obtain ⟨g1, g2, g3⟩ := opM_bd (List.all_eq_true.1 h.2 x hx)
      have hb := (h0 x hx).1
      rw [opr] at hy
      rcases List.mem_cons.1 hy with rfl | hy
      · exact hb
      · split at hy
        · simp at hy
          rcases hy with rfl | rfl <;> omega
        · cases hy
  · exact fun y hy => (by cases hy)
set_option maxRecDepth 100000 in
set_option maxHeartbeats 4000000 in
theorem ctells_walk (F : Fct) (KM : KMay F) (KS : KSame F) (KB : KBytes F) (KT : KText F) (A A1 : Option Addr) (c n c1 n1 : Nat) (L M : List Ins) (w : World) (hw : F.p w) (hr : Ri w A c L) (hr1 : Ri w A1 c1 M) (hn : L.length = n) (hn1 : M.length = n1) :
    Calls Tryd.prog 3 #[.slice A n c, .slice A1 n1 c1] w fun e w' => e = .returned (.bool true) ∧ Below w.heap.size w w' := by
  subst hn hn1
  have cap0 := hr.len
  have cap1 := hr1.len
  by_cases hl : L.length ≤ 1000
  · by_cases hl1 : M.length ≤ 1000
    · have S0 := Lib.hid ((((Sx.start w).add F hw).add (fT A1 c1 M) hr1).add (fT A c L) hr)
      have P1 := fun A c w hr => Lib.hid (r5bytes_k A c L.length L w hr rfl)
      have P2 := fun A c w hw hr => Lib.hid (KT A c L.length L w hw hr rfl (by omega))
      have P3 := fun A c w hr => Lib.hid (r5text_k A c L.length L w hr rfl)
      have P4 := fun A c w hw hr => Lib.hid (KB A c L.length L w hw hr rfl (by omega))
      have P5 := fun A c w hw hr => Lib.hid (KM A c L.length L w hw hr rfl)
      have P6 := fun A c w hr => Lib.hid (r5may_any A c L.length L w hr rfl)
      have hB := byL_byt hr.1
      have hBl : (byL L).length ≤ 9223372036854775807 := by
        unfold byL
        split
        · rename_i h
          have h2 : L.length ≤ 200 := by simp only [codM, Bool.and_eq_true, decide_eq_true_eq] at h; exact h.1.2
          have key : ∀ K : List Ins, (K.flatMap opr).length ≤ 3 * K.length := by
            intro K
            induction K with
            | nil => simp
            | cons x K ih =>
              have hx : (opr x).length ≤ 3 := by rw [opr]; split <;> simp
              rw [List.flatMap_cons, List.length_append, List.length_cons]
              omega
          have := key L
          rw [codB, List.length_cons]
          omega
        · exact Nat.zero_le _
      generalize byL L = B at *
      generalize cdE L = e0 at *
      generalize strOfNums (txL L) = t at *
      generalize codM L = v at *
      obtain ⟨d, hd⟩ : ∃ d, decide (L = M) = d := ⟨_, rfl⟩
      have HD := Lib.hid hd
      obtain ⟨s, hs⟩ : ∃ s, strOfNums B = s := ⟨_, rfl⟩
      have HS := Lib.hid hs
      have HB := Lib.hid hB
      clear hd hs hB hw hr hr1
      go_enter Tryd.func3, Tryd.ntmps3
      go_wp2_with fail
      refine (rcopy_any A c _ L _ S0.out.2.1 rfl (by omega)).mono ?_
      rintro e w1 ⟨A2, c2, rfl, ho1, hb1⟩
      have S1 := Lib.hid ((S0.out.call hb1).add (fT A2 c2 L) (Ri.of_own ho1 S0.out.2.1.1).1)
      clear S0 ho1 hb1
      go_wp2_with fail
      refine (P1 _ _ _ S1.out.2.2.1).out.mono ?_
      rintro e w2 ⟨A3, c3, rfl, ho2, hb2⟩
      have S2 := Lib.hid ((S1.out.call hb2).add (fR A3 c3 B) (own_rd ho2 HB.out))
      clear S1 ho2 hb2
      go_wp2_with fail
      refine (P2 _ _ _ S2.out.2.2.2.2.2.1 S2.out.2.2.1).out.mono ?_
      rintro e w3 ⟨rfl, hb3⟩
      have S3 := Lib.hid (S2.out.call hb3)
      clear S2 hb3
      go_wp2_with fail
      refine (P3 _ _ _ S3.out.2.2.2.1).out.mono ?_
      rintro e w4 ⟨rfl, hb4⟩
      have S4 := Lib.hid (S3.out.call hb4)
      clear S3 hb4
      go_wp2_with fail
      refine (P5 _ _ _ S4.out.2.2.2.2.2.1 S4.out.2.2.1).out.mono ?_
      rintro e w5 ⟨rfl, hb5⟩
      have S5 := Lib.hid (S4.out.call hb5)
      clear S4 hb5
      go_wp2_with fail
      refine (P6 _ _ _ S5.out.2.2.2.1).out.mono ?_
      rintro e w6 ⟨rfl, hb6⟩
      have S6 := Lib.hid (S5.out.call hb6)
      clear S5 hb6
      go_wp2_with fail
      refine (KS _ _ _ _ _ _ L M _ S6.out.2.2.2.2.2.1 S6.out.2.2.1 S6.out.2.2.2.2.1 rfl rfl).mono ?_
      rintro e w7 ⟨rfl, hb7⟩
      rw [HD.out]
      have S7 := Lib.hid (S6.out.call hb7)
      clear S6 hb7
      go_wp2_with fail
      refine (r5same_any _ _ _ _ _ _ L M _ S7.out.2.2.2.1 S7.out.2.2.2.2.1 rfl rfl).mono ?_
      rintro e w8 ⟨rfl, hb8⟩
      rw [HD.out]
      have S8 := Lib.hid (S7.out.call hb8)
      clear S7 hb8
      go_wp2_with fail
      refine (KS _ _ _ _ _ _ L L _ S8.out.2.2.2.2.2.1 S8.out.2.2.1 S8.out.2.2.2.1 rfl rfl).mono ?_
      rintro e w9 ⟨rfl, hb9⟩
      rw [decide_eq_true rfl]
      have S9 := Lib.hid (S8.out.call hb9)
      clear S8 hb9
      go_wp2_with fail
      go_loopw [12, 13, 14, 15] (fun i _ _ _ wr => ∃ k : Nat, k ≤ 2 ∧ i = .int .i64 k ∧ Hid (Sx w wr [fR A3 c3 B, fT A2 c2 L, fT A c L, fT A1 c1 M, F])) (fun i _ _ _ _ => 2 - (intOf i).toNat)
      case atStart => exact ⟨0, by omega, rfl, S9⟩
      case round =>
        obtain ⟨k, hk, rfl, T0⟩ := hrel
        rename World => wA
        clear S9
        by_cases hk2 : k < 2
        · go_wp2_with fail
          refine (P4 _ _ _ T0.out.2.2.2.2.2.1 T0.out.2.2.1).out.mono ?_
          rintro e w11 ⟨A4, c4, rfl, ho4, hb4⟩
          have T1 := Lib.hid (T0.out.call hb4)
          have O1 := Lib.hid ho4
          have B1 := Lib.hid hb4
          clear ho4 hb4
          have k1 := rd_string (P := Tryd.prog) (own_rd O1.out HB.out) 24 9 5 Tryd.underlying24 Tryd.underlying5 Tryd.underlying9
          have k2 := rd_string (P := Tryd.prog) T1.out.2.1 24 9 5 Tryd.underlying24 Tryd.underlying5 Tryd.underlying9
          rw [HS.out] at k1 k2
          go_wp2_with fail
          clear k1 k2
          refine (r5same_any _ _ _ _ _ _ L L _ T1.out.2.2.1 T1.out.2.2.2.1 rfl rfl).mono ?_
          rintro e w12 ⟨rfl, hb5⟩
          rw [decide_eq_true rfl]
          have O2 := Lib.hid (own_below O1.out hb5 (Nat.le_refl _))
          have B2 := Lib.hid (below_on B1.out hb5)
          clear hb5 O1 B1 T1
          go_wp2_with fail
          go_loopw [15] (fun i wx => ∃ (j : Nat) (m : List Int), j ≤ B.length ∧ i = .int .i64 j ∧ Hid (Byt m ∧ m.length = B.length ∧ wx.ownsRow wA.heap.size 5 1 (.slice A4 B.length c4) B.length (cel m)) ∧ Hid (Below wA.heap.size wA wx)) (fun i _ => B.length - (intOf i).toNat)
          case atStart => exact ⟨0, B, by omega, rfl, Lib.hid ⟨HB.out, rfl, O2.out⟩, B2⟩
          case round =>
            obtain ⟨j, m, hj, rfl, HI, BI⟩ := hrel
            clear O2 B2
            by_cases hlt : j < B.length
            · obtain ⟨hbm, hm, hown⟩ := HI.out
              obtain ⟨g, rfl, hg⟩ := own_some hown (by omega)
              have hfz := hown.frozenAt j
              have hcell := hown.cellAt j (by omega)
              obtain ⟨x, hx⟩ : ∃ x, m[j]? = some x := ⟨_, List.getElem?_eq_getElem (by omega)⟩
              have hx' : (cel m)[j]? = some (.int .u8 x) := by simp [cel, hx]
              rw [hx'] at hcell
              have hxb : 0 ≤ x ∧ x < 256 := hbm x (List.mem_of_getElem? hx)
              have hst := hown.stored j (.int .u8 ((x + 1) % 256))
              rw [cel_set] at hst
              have HS2 := Lib.hid hst
              have HB2 := Lib.hid (BI.out.setCell (p := ⟨g, j, none⟩) hg (.int .u8 ((x + 1) % 256)))
              have HY := Lib.hid (byt_set hbm j (x := (x + 1) % 256) (by omega))
              have HM := Lib.hid hm
              clear hx hx' hst hown hm hbm HI BI
              go_wp2_with fail
              go_roundw
              case rel => exact ⟨j + 1, m.set j ((x + 1) % 256), by omega, by go_num, Lib.hid ⟨HY.out, by rw [List.length_set]; exact HM.out, HS2.out.1⟩, HB2⟩
              case measure => simp [intOf]; omega
            · obtain rfl : j = B.length := by omega
              go_wp2_with fail
              go_roundw
              case rel => exact ⟨k + 1, by omega, by go_num, Lib.hid (T0.out.call BI.out)⟩
              case measure => simp [intOf]; omega
        · obtain rfl : k = 2 := by omega
          go_wp2_with fail
          go_ret
          exact ⟨rfl, T0.out.1⟩
    · go_enter Tryd.func3, Tryd.ntmps3
      go_wp2_with fail
      go_ret
      exact ⟨rfl, Below.refl _ _⟩
  · go_enter Tryd.func3, Tryd.ntmps3
    go_wp2_with fail
    go_ret
    exact ⟨rfl, Below.refl _ _⟩
end Go.Proofs.YthmfjdafmnmgiaaDoor
