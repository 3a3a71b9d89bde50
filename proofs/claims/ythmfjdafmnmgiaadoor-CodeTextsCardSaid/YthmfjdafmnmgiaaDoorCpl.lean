/-
  Layer 5, package code: what parseLine answers, for every line.
-/
import Derived.Test.YthmfjdafmnmgiaaDoorCtx
import Derived.Test.YthmfjdafmnmgiaaDoorOparses
namespace Go.Proofs.YthmfjdafmnmgiaaDoor
open Go.RowKit
set_option maxRecDepth 100000
set_option linter.unusedSimpArgs false
set_option linter.unusedVariables false

theorem cprs_v (T : List Int) (hT : Byt T) (t : ByteArray) (ht : strOfNums T = t) (o : Int) (v : Bool) (h : opP T = (o, v)) (w : World) (hw : GN w) : Calls Tryd.prog 49 #[.string t] w fun e w' => e = .returned (.tuple #[.int .u8 o, .bool v]) ∧ w = w' := by
  subst ht
  unfold opP at h
  split at h
  · rename_i j hj
    injection h with h1 h2
    subst h1 h2
    obtain ⟨h1, h2, h3⟩ := List.find?_range_eq_some.1 hj
    have h2' : j < 33 := by simpa using h2
    refine prs_t _ w hw j h2' (fun i hi => ?_) ?_
    · rw [opS_flag i hT]
      have := h3 i hi
      simp at this
      exact decide_eq_false this
    · rw [opS_flag j hT]
      simp at h1
      exact decide_eq_true h1
  · rename_i hn
    injection h with h1 h2
    subst h1 h2
    refine prs_f _ w hw fun i hi => ?_
    rw [opS_flag i hT]
    have := (List.find?_range_eq_none.1 hn) i hi
    simp at this
    exact decide_eq_false this
/-- What parseLine makes of a line U, trimmed to T: an instruction, and whether it is one. -/
def plI (T : List Int) : Ins := ((opP (T.take (spK T))).1, atV (u8L (T.drop (spK T + 1))), 0)
def plV (U T : List Int) : Bool := (opP (T.take (spK T))).2 && inM (plI T) && decide (lnT (plI T) = U)
theorem plV_end {U : List Int} (h : ∀ c ∈ U, c ≠ 10) : plV U U = false := by
  unfold plV
  have : decide (lnT (plI U) = U) = false := by
    refine decide_eq_false fun e => ?_
    have hm : (10 : Int) ∈ lnT (plI U) := by rw [lnT_lnC]; simp
    rw [e] at hm
    exact h _ hm rfl
  rw [this, Bool.and_false]
theorem opP_0 (T : List Int) : 0 ≤ (opP T).1 := (opP_bd T).1
theorem plV_line (W : List Int) : plV (W ++ [10]) W = (lnP W).2 ∧ (plV (W ++ [10]) W = true → plI W = (lnP W).1) := by
  have h2 : plV (W ++ [10]) W = true → lnP W = (plI W, true) := by
    intro h
    unfold plV at h
    rw [Bool.and_eq_true, Bool.and_eq_true, decide_eq_true_eq, lnT_lnC] at h
    obtain ⟨⟨_, hi⟩, he⟩ := h
    have e : W = lnC (plI W) := (List.append_inj_left' he rfl).symm
    conv => lhs; rw [e]
    exact lnP_enc hi (opP_0 _)
  have h1 : (lnP W).2 = true → plV (W ++ [10]) W = true := by
    intro h
    obtain ⟨x, hx⟩ : ∃ x, lnP W = (x, true) := ⟨(lnP W).1, by rw [← h]⟩
    obtain ⟨hin, heq⟩ := lnP_inv hx
    have e : W = lnC x := List.append_inj_left' (heq.trans (lnT_lnC x)) rfl
    have hx0 : 0 ≤ x.1 ∧ x.1 < 33 := by
      have : x.1 = (opP (W.take (spK W))).1 := by
        have e2 : (lnP W).1.1 = (opP (W.take (spK W))).1 := by
          unfold lnP
          split
          · rfl
          · split
            · rfl
            · split <;> rfl
        rw [← e2, hx]
      rw [this]
      exact opP_bd _
    obtain ⟨q1, q2, q3⟩ := inM_parts hin
    obtain ⟨g1, g2, g3⟩ := opM_bd hin
    obtain ⟨n, a, b⟩ := x
    simp only at hx0 q1 q2 q3 g1 g2 g3
    subst q3
    have hc : ∀ c ∈ nmI n, c ≠ 32 := fun c hc => (nmI_chr hx0.1 hx0.2 c hc).1
    have ho := opP_name hx0.1 hx0.2
    have key : opP (W.take (spK W)) = (n, true) ∧ atV (u8L (W.drop (spK W + 1))) = a := by
      cases hw : wdB n with
      | true =>
        have e3 : lnC (n, a, 0) = nmI n ++ 32 :: dgT a.toNat := by simp [lnC, hw]
        have ek : spK (nmI n ++ 32 :: dgT a.toNat) = (nmI n).length := spK_word hc
        have et : (nmI n ++ 32 :: dgT a.toNat).take (nmI n).length = nmI n := List.take_left
        have ed : (nmI n ++ 32 :: dgT a.toNat).drop ((nmI n).length + 1) = dgT a.toNat := by rw [← List.drop_drop, List.drop_left]; rfl
        rw [e, e3, ek, et, ed, atV_dig (by omega)]
        exact ⟨ho, by omega⟩
      | false =>
        have hh : ¬ 0 < opHi n := by simpa [wdB] using hw
        have h0' := opLo_nonneg n
        obtain rfl : a = 0 := by omega
        have e3 : lnC (n, 0, 0) = nmI n := by simp [lnC, hw]
        rw [e, e3, spK_name hc, List.take_length, List.drop_of_length_le (by omega)]
        exact ⟨ho, rfl⟩
    have hpl : plI W = (n, a, 0) := by unfold plI; rw [key.1, key.2]
    unfold plV
    rw [key.1, hpl, hin, ← heq]
    simp
  cases hv : plV (W ++ [10]) W with
  | true =>
    have := h2 hv
    exact ⟨by rw [this], fun _ => by rw [this]⟩
  | false =>
    refine ⟨?_, fun h => (by cases h)⟩
    cases hl : (lnP W).2 with
    | false => rfl
    | true => rw [h1 hl] at hv; cases hv

/-- parseLine's first result. -/
def plR (x : Ins) : Bool → Value
  | true => .agg #[.int .u8 x.1, .int .i64 x.2.1, .int .i64 x.2.2]
  | false => .agg #[.int .u8 0, .int .i64 0, .int .i64 0]
set_option maxHeartbeats 2000000 in
theorem cpline_v (U T : List Int) (hU : Byt U) (hT : Byt T) (hTl : T.length ≤ 1000000) (u t : ByteArray) (hu : strOfNums U = u) (ht : strOfNums T = t)
    (htr : ∀ w : World, Calls Tryd.prog 48 #[.string u, .string ⟨#[10]⟩] w fun e w' => e = .returned (.string t) ∧ w' = w)
    (x : Ins) (v : Bool) (hv : plV U T = v) (hx : plI T = x) (w : World) (hw : fAll.p w) : Calls Tryd.prog 35 #[.string u] w fun e w' =>
      e = .returned (.tuple #[plR x v, .bool v]) ∧ Below w.heap.size w w' := by
  obtain ⟨⟨o, k⟩, hop⟩ : ∃ p, opP (T.take (spK T)) = p := ⟨_, rfl⟩
  obtain ⟨a, ha⟩ : ∃ a, atV (u8L (T.drop (spK T + 1))) = a := ⟨_, rfl⟩
  obtain ⟨nm, hnm⟩ : ∃ nm, strOfNums (T.take (spK T)) = nm := ⟨_, rfl⟩
  obtain ⟨od, hod⟩ : ∃ od, strOfNums (T.drop (spK T + 1)) = od := ⟨_, rfl⟩
  obtain ⟨fl, hfl⟩ : ∃ fl, decide (spK T < T.length) = fl := ⟨_, rfl⟩
  have ho := opP_bd (T.take (spK T))
  rw [hop] at ho
  have hab := atV_bd (u8L (T.drop (spK T + 1)))
  rw [ha] at hab
  have K1 := fun w => Lib.hid (cut_v T hT t ht hTl nm od fl hnm hod hfl w)
  have K2 := fun w hw => Lib.hid (cprs_v (T.take (spK T)) (byt_take hT _) nm hnm o k hop w hw)
  have K3 := fun w hw => Lib.hid (atoi_v od _ (by rw [← hod]; exact u8L_str _) a ha (by rw [← hod, strOfNums_size, List.length_drop]; omega) w hw)
  have hpx : x = (o, a, 0) := by rw [← hx, plI, hop, ha]
  have hvv : v = (k && inM (o, a, 0) && decide (lnT (o, a, 0) = U)) := by rw [← hv, plV, hop, hx, hpx]
  subst hpx
  have HTR := fun w => Lib.hid (htr w)
  have HVV := Lib.hid hvv
  have HUB := Lib.hid hU
  have HU := Lib.hid hu
  have S0 := Lib.hid ((((Sx.start w).add fAll hw).mk1 (.cells #[.int .u8 0, .int .i64 0, .int .i64 0] 47)).add (fI w.heap.size 0 0 0) (In.new w 0 0 0))
  clear htr hv hx hvv hw hu ht hop ha hnm hod hfl hU hT hTl
  go_enter Tryd.func35, Tryd.ntmps35
  go_wp2_with fail
  refine (HTR _).out.mono ?_
  rintro e w1 ⟨rfl, rfl⟩
  go_wp2_with fail
  refine (K1 _).out.mono ?_
  rintro e w2 ⟨rfl, hb2⟩
  have S2 := Lib.hid (S0.out.call hb2)
  clear hb2 S0
  go_wp2_with fail
  refine (K2 _ S2.out.2.2.1.1).out.mono ?_
  rintro e w3 ⟨rfl, rfl⟩
  go_wp2_with fail
  refine (K3 _ S2.out.2.2.1.2.2).out.mono ?_
  rintro e w4 ⟨⟨ev, rfl⟩, hb4⟩
  have S4 := Lib.hid (S2.out.call hb4)
  clear hb4 S2 K1 K2 K3 HTR
  have S5 := Lib.hid ((S4.out.mk1 (.cells #[.int .u8 o, .int .i64 a, .int .i64 0] 47)).add (fI w4.heap.size o a 0) (In.new w4 o a 0))
  clear S4
  cases k with
  | false =>
    have HV : Hid (v = false) := by rw [Hid, HVV.out]; rfl
    have HB := Lib.hid S5.out.1
    obtain ⟨-, -, ⟨-, y1, y2, y3, y4, y5, y6⟩, -⟩ := S5.out
    go_wp2_with fail
    exact bodyPost_ret (v := .tuple #[.agg #[.int .u8 0, .int .i64 0, .int .i64 0], .bool false]) (by simp [results, Tryd.results35, go_sem, y1, y2, y3]) rfl ⟨by rw [HV.out]; rfl, ((HB.out.setCell (Nat.le_refl _) _).setCell (Nat.le_refl _) _).setCell (Nat.le_refl _) _⟩
  | true =>
    obtain ⟨m, hm⟩ : ∃ m, opM o a 0 = m := ⟨_, rfl⟩
    have HM := Lib.hid hm
    cases m with
    | false =>
      have HV : Hid (v = false) := by rw [Hid, HVV.out]; simp [inM, hm]
      clear hm
      obtain ⟨-, ⟨-, z1, z2, z3, -⟩, -⟩ := S5.out
      go_wp2_with fail
      refine (omay_v o a 0 false _ HM.out).mono ?_
      rintro e w6 ⟨rfl, hb6⟩
      have S6 := Lib.hid (S5.out.call hb6)
      clear hb6 S5 z1 z2 z3
      have HB := Lib.hid S6.out.1
      obtain ⟨-, -, ⟨-, y1, y2, y3, y4, y5, y6⟩, -⟩ := S6.out
      go_wp2_with fail
      exact bodyPost_ret (v := .tuple #[.agg #[.int .u8 0, .int .i64 0, .int .i64 0], .bool false]) (by simp [results, Tryd.results35, go_sem, y1, y2, y3]) rfl ⟨by rw [HV.out]; rfl, ((HB.out.setCell (Nat.le_refl _) _).setCell (Nat.le_refl _) _).setCell (Nat.le_refl _) _⟩
    | true =>
      have hin : inM (o, a, 0) = true := hm
      obtain ⟨s, hs⟩ : ∃ s, strOfNums (lnT (o, a, 0)) = s := ⟨_, rfl⟩
      have KL := fun w hG hT => Lib.hid (cline_v (o, a, 0) hin ho.1 s hs w hG hT)
      have hlb : Byt (lnT (o, a, 0)) := by
        intro c hc
        rw [lnT] at hc
        rcases List.mem_append.1 hc with hc | hc
        · rcases List.mem_append.1 hc with hc | hc
          · exact nmI_byt _ c hc
          · split at hc
            · rcases List.mem_cons.1 hc with rfl | hc
              · omega
              · exact dgT_byt _ c hc
            · cases hc
        · rw [List.mem_singleton.1 hc]; omega
      obtain ⟨q, hq⟩ : ∃ q, decide (lnT (o, a, 0) = U) = q := ⟨_, rfl⟩
      have hse : (s.toList == u.toList) = q := by rw [← hs, ← HU.out, str_eqb hlb HUB.out, hq]
      have HVQ : Hid (v = q) := by rw [Hid, HVV.out, hin, hq]; rfl
      clear hm hin hs hlb hq
      obtain ⟨-, ⟨-, z1, z2, z3, -⟩, -⟩ := S5.out
      go_wp2_with fail
      refine (omay_v o a 0 true _ HM.out).mono ?_
      rintro e w6 ⟨rfl, hb6⟩
      have S6 := Lib.hid (S5.out.call hb6)
      clear hb6 S5 z1 z2 z3
      obtain ⟨-, ⟨-, z1, z2, z3, -⟩, -⟩ := S6.out
      go_wp2_with fail
      refine (KL _ S6.out.2.2.2.1.1 S6.out.2.2.2.1.2.1).out.mono ?_
      rintro e w7 ⟨rfl, hb7⟩
      have S7 := Lib.hid (S6.out.call hb7)
      clear hb7 S6 z1 z2 z3 KL
      have HB := Lib.hid S7.out.1
      obtain ⟨-, ⟨-, z1, z2, z3, -⟩, ⟨-, y1, y2, y3, y4, y5, y6⟩, -⟩ := S7.out
      cases q with
      | false =>
        have HV := HVQ
        go_wp2_with fail
        exact bodyPost_ret (v := .tuple #[.agg #[.int .u8 0, .int .i64 0, .int .i64 0], .bool false]) (by simp [results, Tryd.results35, go_sem, y1, y2, y3]) rfl ⟨by rw [HV.out]; rfl, ((HB.out.setCell (Nat.le_refl _) _).setCell (Nat.le_refl _) _).setCell (Nat.le_refl _) _⟩
      | true =>
        go_wp2_with fail
        exact bodyPost_ret (v := .tuple #[.agg #[.int .u8 o, .int .i64 a, .int .i64 0], .bool true]) (by simp [results, Tryd.results35, go_sem, y1, y2, y3]) rfl ⟨by rw [HVQ.out]; rfl, ((HB.out.setCell (Nat.le_refl _) _).setCell (Nat.le_refl _) _).setCell (Nat.le_refl _) _⟩
end Go.Proofs.YthmfjdafmnmgiaaDoor
