/-
  The walk of CodeTexts: for all instructions and every text it returns true; nothing that was there has changed.
-/
import Derived.Test.YthmfjdafmnmgiaaDoorCawake
namespace Go.Proofs.YthmfjdafmnmgiaaDoor
open Go.RowKit
set_option maxRecDepth 100000
set_option linter.unusedSimpArgs false
set_option linter.unusedVariables false

theorem psL_way : ∀ (S cur : List Int) (K : List Ins), (psL S cur K).1 = 0 ∨ psL S cur K = (40, [])
  | [], cur, K => by
    rw [psL]
    split
    · exact .inl rfl
    · exact .inr rfl
  | c :: S, cur, K => by
    rw [psL]
    split
    · exact psL_way S _ K
    · split
      · exact psL_way S _ _
      · exact .inr rfl
theorem nmI_len (n : Int) : (nmI n).length ≤ 5 := by
  have := opS_size n
  rw [nmI, List.length_map]
  exact this
theorem lnT_len {x : Ins} (h : inM x = true) : (lnT x).length ≤ 11 := by
  obtain ⟨g1, g2, g3⟩ := opM_bd h
  have h1 := nmI_len x.1
  have h2 := (len_dgT x.2.1.toNat (by omega)).2
  rw [lnT, List.length_append, List.length_append]
  split
  · simp; omega
  · simp; omega
theorem codT_len : ∀ {L : List Ins}, (∀ x ∈ L, inM x = true) → (codT L).length ≤ 11 * L.length
  | [], _ => by simp [codT]
  | x :: L, h => by
    have h1 := lnT_len (h x (by simp))
    have h2 := codT_len (L := L) (fun y hy => h y (by simp [hy]))
    rw [codT, List.flatMap_cons, List.length_append, ← codT, List.length_cons]
    omega
theorem lnT_byt (x : Ins) : Byt (lnT x) := by
  refine byt_append (byt_append (nmI_byt _) ?_) (byt_of rfl)
  split
  · intro y hy
    rcases List.mem_cons.1 hy with rfl | hy
    · exact ⟨by decide, by decide⟩
    · exact dgT_byt _ y hy
  · exact fun y hy => (by cases hy)
theorem codT_byt (L : List Ins) : Byt (codT L) := by
  intro y hy
  obtain ⟨x, _, hx⟩ := List.mem_flatMap.1 hy
  exact lnT_byt x y hx
theorem ins_nonneg {L : List Ins} (h : ∀ x ∈ L, InOk x) : ∀ x ∈ L, 0 ≤ x.1 := fun x hx => (h x hx).1.1

/-- What stands behind the first half: a text is parsed, and has just that text. -/
theorem ctexts_walk (F : Fct) (KM : KMay F) (KS : KSame F) (KB : KBytes F) (KR : KRead F) (KT : KText F) (KP : KParse F) (A : Option Addr) (c n : Nat) (L : List Ins) (s : ByteArray) (w : World) (hr : Ri w A c L) (hn : L.length = n) (hs : s.size ≤ maxLen) (hw : F.p w) :
    Calls Tryd.prog 6 #[.slice A n c, .string s] w fun e w' => e = .returned (.bool true) ∧ Below w.heap.size w w' := by
  subst hn
  have hs' : s.size ≤ 9223372036854775807 := hs
  have hlen := hr.len
  have S0 := Lib.hid (((Sx.start w).add F hw).add (fT A c L) hr)
  have HOK := Lib.hid (ins_nonneg hr.1)
  clear hw hr hs
  by_cases hl1 : L.length ≤ 1000
  · by_cases hl2 : s.size ≤ 4000
    · have P2 := fun w hw => Lib.hid (KP (nums s) s w hw (nums_byt s) (nums_str s) (by rw [nums_len]; omega))
      have HW := Lib.hid (psL_way (nums s) [] [])
      have HV : Hid (∀ M, psC (nums s) = (0, M) → M.length ≤ 1000 ∧ cdE M = 0 ∧ strOfNums (txL M) = s) := by
        intro M hM
        obtain ⟨h1, h2, h3⟩ := psC_inv hM
        refine ⟨by have := (codM_parts h1).2.1; omega, by rw [cdE, if_pos h1], by rw [txL, if_pos h1, h3, nums_str]⟩
      obtain ⟨R, hR⟩ : ∃ R, psC (nums s) = R := ⟨_, rfl⟩
      have hW : R.1 = 0 ∨ R = (40, []) := by rw [← hR]; exact HW.out
      have hV : ∀ M, R = (0, M) → M.length ≤ 1000 ∧ cdE M = 0 ∧ strOfNums (txL M) = s := by rw [← hR]; exact HV.out
      simp only [hR] at P2
      clear HW HV hR
      obtain ⟨e0, M⟩ := R
      simp only at P2
      cases hv : codM L with
      | true =>
        have hE : cdE L = 0 := by rw [cdE, if_pos hv]
        have hp := psC_enc hv HOK.out
        have hX : txL L = codT L := by rw [txL, if_pos hv]
        have hcl := codT_len (codM_parts hv).2.2
        have HE := Lib.hid hE
        have HV := Lib.hid hv
        have P1 := fun w hw => Lib.hid (KP (codT L) (strOfNums (codT L)) w hw (codT_byt L) rfl (by omega))
        simp only [hp] at P1
        have P0 := fun w hw hr => Lib.hid (KT A c L.length L w hw hr rfl (by omega))
        simp only [hX, hE] at P0
        clear hE hp hX hcl hv
        generalize strOfNums (codT L) = t at *
        go_enter Tryd.func6, Tryd.ntmps6
        go_wp2_with fail
        refine (cawake_any F KB KT KR _ S0.out.2.2.1).mono ?_
        rintro e w1 ⟨rfl, hb1⟩
        have S1 := Lib.hid (S0.out.call hb1)
        clear S0 hb1
        go_wp2_with fail
        refine (P0 _ S1.out.2.2.1 S1.out.2.1).out.mono ?_
        rintro e w2 ⟨rfl, hb2⟩
        have S2 := Lib.hid (S1.out.call hb2)
        clear S1 hb2 P0
        go_wp2_with fail
        refine (KM _ _ _ L _ S2.out.2.2.1 S2.out.2.1 rfl).mono ?_
        rintro e w3 ⟨rfl, hb3⟩
        rw [HV.out]
        have S3 := Lib.hid (S2.out.call hb3)
        clear S2 hb3
        go_wp2_with fail
        refine (P1 _ S3.out.2.2.1).out.mono ?_
        rintro e w4 ⟨A4, c4, rfl, h4, hb4⟩
        have S4 := Lib.hid ((S3.out.call hb4).add (fT A4 c4 L) h4)
        clear S3 h4 hb4 P1
        go_wp2_with fail
        refine (KS _ _ _ _ _ _ L L _ S4.out.2.2.2.1 S4.out.2.2.1 S4.out.2.1 rfl rfl).mono ?_
        rintro e w5 ⟨rfl, hb5⟩
        rw [decide_eq_true rfl]
        have S5 := Lib.hid (S4.out.call hb5)
        clear S4 hb5
        go_wp2_with fail
        refine (P2 _ S5.out.2.2.2.1).out.mono ?_
        rintro e w6 ⟨A6, c6, rfl, h6, hb6⟩
        have hl6 := h6.len
        have S6 := Lib.hid ((S5.out.call hb6).add (fT A6 c6 M) h6)
        clear S5 h6 hb6 P2
        by_cases h0 : e0 = 0
        · subst h0
          obtain ⟨v1, v2, v3⟩ := hV M rfl
          have P3 := Lib.hid (KT A6 c6 M.length M w6 S6.out.2.2.2.2.1 S6.out.2.1 rfl (by omega))
          rw [v2, v3] at P3
          clear v2 v3 hV hW
          go_wp2_with fail
          refine P3.out.mono ?_
          rintro e w7 ⟨rfl, hb7⟩
          have S7 := Lib.hid (S6.out.call hb7)
          clear S6 hb7 P3
          go_wp2_with fail
          go_ret
          exact ⟨rfl, S7.out.1⟩
        · rcases hW with hW | hW
          · exact absurd hW h0
          · injection hW with q1 q2
            subst q1 q2
            clear hV h0
            rw [show ([] : List Ins).length = 0 from rfl]
            go_wp2_with fail
            go_ret
            exact ⟨rfl, S6.out.1⟩
      | false =>
        have hE : cdE L = 40 := by rw [cdE, if_neg (by rw [hv]; decide)]
        have hX : txL L = [] := by rw [txL, if_neg (by rw [hv]; decide)]
        have HV := Lib.hid hv
        have P0 := fun w hw hr => Lib.hid (KT A c L.length L w hw hr rfl (by omega))
        simp only [hX, hE] at P0
        clear hE hX hv
        go_enter Tryd.func6, Tryd.ntmps6
        go_wp2_with fail
        refine (cawake_any F KB KT KR _ S0.out.2.2.1).mono ?_
        rintro e w1 ⟨rfl, hb1⟩
        have S1 := Lib.hid (S0.out.call hb1)
        clear S0 hb1
        go_wp2_with fail
        refine (P0 _ S1.out.2.2.1 S1.out.2.1).out.mono ?_
        rintro e w2 ⟨rfl, hb2⟩
        rw [show strOfNums [] = ⟨#[]⟩ from rfl]
        have S2 := Lib.hid (S1.out.call hb2)
        clear S1 hb2 P0
        go_wp2_with fail
        refine (KM _ _ _ L _ S2.out.2.2.1 S2.out.2.1 rfl).mono ?_
        rintro e w3 ⟨rfl, hb3⟩
        rw [HV.out]
        have S5 := Lib.hid (S2.out.call hb3)
        clear S2 hb3
        go_wp2_with fail
        refine (P2 _ S5.out.2.2.1).out.mono ?_
        rintro e w6 ⟨A6, c6, rfl, h6, hb6⟩
        have hl6 := h6.len
        have S6 := Lib.hid ((S5.out.call hb6).add (fT A6 c6 M) h6)
        clear S5 h6 hb6 P2
        by_cases h0 : e0 = 0
        · subst h0
          obtain ⟨v1, v2, v3⟩ := hV M rfl
          have P3 := Lib.hid (KT A6 c6 M.length M w6 S6.out.2.2.2.1 S6.out.2.1 rfl (by omega))
          rw [v2, v3] at P3
          clear v2 v3 hV hW
          go_wp2_with fail
          refine P3.out.mono ?_
          rintro e w7 ⟨rfl, hb7⟩
          have S7 := Lib.hid (S6.out.call hb7)
          clear S6 hb7 P3
          go_wp2_with fail
          go_ret
          exact ⟨rfl, S7.out.1⟩
        · rcases hW with hW | hW
          · exact absurd hW h0
          · injection hW with q1 q2
            subst q1 q2
            clear hV h0
            rw [show ([] : List Ins).length = 0 from rfl]
            go_wp2_with fail
            go_ret
            exact ⟨rfl, S6.out.1⟩
    · go_enter Tryd.func6, Tryd.ntmps6
      go_wp2_with fail
      refine (cawake_any F KB KT KR _ S0.out.2.2.1).mono ?_
      rintro e w1 ⟨rfl, hb1⟩
      have S1 := Lib.hid (S0.out.call hb1)
      go_wp2_with fail
      go_ret
      exact ⟨rfl, S1.out.1⟩
  · go_enter Tryd.func6, Tryd.ntmps6
    go_wp2_with fail
    refine (cawake_any F KB KT KR _ S0.out.2.2.1).mono ?_
    rintro e w1 ⟨rfl, hb1⟩
    have S1 := Lib.hid (S0.out.call hb1)
    go_wp2_with fail
    go_ret
    exact ⟨rfl, S1.out.1⟩
end Go.Proofs.YthmfjdafmnmgiaaDoor
