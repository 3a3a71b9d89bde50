/-
  Layer 16: the program's Begin, Again: a map of turns.
-/
import Derived.Test.YtkifapnmojfjoaaUp
namespace Go.Proofs.Ytkifapnmojfjoaa
open Go.RowKit Go.Maps
set_option maxRecDepth 100000
set_option linter.unusedSimpArgs false
set_option linter.unusedVariables false

theorem law16 : Keyed Try.prog 3 := int_keyed Try.underlying3
theorem zero16 (w : World) : (zeroValue 3).run Try.prog w = .ok (.int .i64 0) w := by kernel_rfl
theorem wf16 {x : Int} (h : -9223372036854775808 ≤ x ∧ x ≤ 9223372036854775807) : (Lit.int .i64 x).wf = true := WalkArith.wf_i64 (by omega)
theorem key16 {x : Int} (h : -9223372036854775808 ≤ x ∧ x ≤ 9223372036854775807) : keyOf Try.prog 3 (.int .i64 x) = some (.int .i64 x) := keyOf_int_mk Try.underlying3 (wf16 h)
theorem isk16 (x : Int) : WideAt.IsKeyLit (.int .i64 x) := by simp [WideAt.IsKeyLit]
theorem klne16 {x y : Int} (h : x ≠ y) : Lit.int .i64 x ≠ Lit.int .i64 y := by
  intro e
  simp only [Lit.int.injEq, true_and] at e
  exact h e
section
variable {w w' : World} {B : Nat} {f : Fm} {A : Option Addr} {c M n : Nat} {L : List Vlu} {D D' : DataW Unit} {X Y : Nat → Prop} {t t' : Int → Int} {x k : Int}
theorem look16 (h : w.ownsMap Try.prog 3 (plainElem Try.prog 3) M n D) (hd : Td16 D t) (hx : -9223372036854775808 ≤ x ∧ x ≤ 9223372036854775807) :
    (Instr.lookup 45 (.map (some M)) (.int .i64 x) false).run Try.prog w = .ok (.int .i64 (t x)) w := by
  obtain ⟨v, hrun, hat, -⟩ := h.lookup_int law16 Try.underlying45 Try.underlying3 (zero16 _) (key16 hx)
  rw [hd x hx.1 hx.2] at hat
  injection hat with hat
  injection hat with _ hat
  rw [hrun, hat]
theorem Td16.put (hd : Td16 D t) (hm : IsMap D) : Td16 (D.put (.int .i64 x) (.lit (.int .i64 k))) fun y => if y = x then k else t y := fun y h1 h2 => by
  by_cases e : y = x
  · subst e
    rw [atKey_put_same hm (isk16 y)]
    simp
  · rw [atKey_put_other (klne16 e), hd y h1 h2]
    simp [e]
theorem Td16.del (hd : Td16 D t) : Td16 (D.del (.int .i64 x)) fun y => if y = x then 0 else t y := fun y h1 h2 => by
  by_cases e : y = x
  · subst e
    rw [atKey_del_same]
    simp
  · rw [atKey_del_other (klne16 e), hd y h1 h2]
    simp [e]
theorem pf16_turns (h : Pq16 w B f A c M L D) (x0 : X B) (x1 : X M) (x2 : ∀ a, A = some a → X a.block) (x3 : ∀ j, X j → j < w.heap.size) (hf : Fr11 (fun j => j = M) w w') (ho : w'.ownsMap Try.prog 3 (plainElem Try.prog 3) M (f.q + 1) D') (hd : Td16 D' t') (ht : ∀ y, 0 ≤ t' y ∧ t' y ≤ 9223372036854775807) :
    Pf16 X w' B { f with t := t', q := f.q + 1 } ∧ Fr11 X w w' :=
  ⟨⟨A, c, M, L, D', ⟨(hf.block _ (Array.getElem?_eq_some_iff.1 h.box).1 h.BM).trans h.box, h.ll, h.le, h.pre, own_fr16 h.rs hf (fun a ha e => h.sM ha e), ho, hd, h.ok, h.many, ht⟩, x0, x1, x2, fun j hj => Nat.lt_of_lt_of_le (x3 j hj) hf.size⟩, hf.mono fun j hj => by rw [hj]; exact x1⟩
end
theorem pbegin_v (X : Nat → Prop) (B : Nat) (f : Fm) (x n : Int) (w : World) (h : Pf16 X w B f) (hq : f.q ≤ 100000) (hx : -9223372036854775808 ≤ x ∧ x ≤ 9223372036854775807) (hn : -9223372036854775808 ≤ n ∧ n ≤ 9223372036854775807) :
    Calls Try.prog 16 #[.pointer (some ⟨B, 0, none⟩), .int .i64 x, .int .i64 n] w fun e w' => e = .returned (.tuple #[]) ∧ Pf16 X w' B (bF16 f x n) ∧ Fr11 X w w' := by
  obtain ⟨A, c, M, L, D, h, x0, x1, x2, x3⟩ := h
  have H := Lib.hid h
  have X2 := Lib.hid x2
  have X3 := Lib.hid x3
  obtain ⟨b0, -, -, -, b4⟩ := h.c0
  have HM := Lib.hid (pmade_v B w b0)
  have HQ := Lib.hid hq
  have HX := Lib.hid hx
  have HNN := Lib.hid hn
  have hl0 : B < w.heap.size := cell_lt b0
  clear h b0 x2 x3 hq hx hn
  by_cases hn1 : n < 1
  · have g1 : decide (n < 1) = true := decide_eq_true hn1
    go_enter Try.func16, Try.ntmps16
    go_wp2_with fail
    refine HM.out.mono ?_
    rintro e w1 ⟨rfl, rfl⟩
    go_wp2_with (at_delete; refine wpList_delete_own _ rfl _ _ 45 3 rfl 3 law16 Try.underlying45 _ M f.q D rfl H.out.mp _ _ rfl (key16 HX.out) ?_)
    intro w2 hown hturn
    obtain ⟨e1, e2⟩ := pf16_turns H.out x0 x1 X2.out X3.out (Fr11.of_grown (X := fun j => j = M) hturn.grown fun j hj => by injection hj) (hown.mono (Nat.le_succ _)) (H.out.md.del (x := x)) (fun y => by
      by_cases e : y = x
      · simp [e]
      · simp only [e, if_false]; exact H.out.tb y)
    have HE1 := Lib.hid e1
    have HE2 := Lib.hid e2
    clear e1 e2 hown hturn
    go_wp2_with fail
    go_end0
    refine ⟨rfl, ?_, HE2.out⟩
    have e : bF16 f x n = { f with t := fun y => if y = x then 0 else f.t y, q := f.q + 1 } := by
      unfold bF16
      rw [if_neg (by omega)]
    rw [e]
    exact HE1.out
  · have g1 : decide (n < 1) = false := decide_eq_false hn1
    go_enter Try.func16, Try.ntmps16
    go_wp2_with fail
    refine HM.out.mono ?_
    rintro e w1 ⟨rfl, rfl⟩
    go_wp2_with (at_mapUpdate; refine wpList_mapUpdate_own _ rfl _ _ _ 45 rfl 3 3 law16 Try.underlying45 _ M f.q D rfl H.out.mp (by have := HQ.out; unfold maxLen; omega) _ _ (.int .i64 x) rfl rfl (key16 HX.out) (.lit (.int .i64 n)) [] (plainElem_int Try.underlying3 (wf16 HNN.out)) ?_)
    intro w2 hown hgrow
    obtain ⟨e1, e2⟩ := pf16_turns H.out x0 x1 X2.out X3.out (Fr11.of_grown (X := fun j => j = M) hgrow fun j hj => by injection hj) hown (H.out.md.put (x := x) (k := n) H.out.mp.isMap) (fun y => by
      by_cases e : y = x
      · simp only [e, if_true]; have := HNN.out; omega
      · simp only [e, if_false]; exact H.out.tb y)
    have HE1 := Lib.hid e1
    have HE2 := Lib.hid e2
    clear e1 e2 hown hgrow
    go_wp2_with fail
    go_end0
    refine ⟨rfl, ?_, HE2.out⟩
    have e : bF16 f x n = { f with t := fun y => if y = x then n else f.t y, q := f.q + 1 } := by
      unfold bF16
      rw [if_pos (by omega)]
    rw [e]
    exact HE1.out
theorem pagain_v (X : Nat → Prop) (B : Nat) (f : Fm) (x : Int) (w : World) (h : Pf16 X w B f) (hq : f.q ≤ 90000) (hx : -9223372036854775808 ≤ x ∧ x ≤ 9223372036854775807) :
    Calls Try.prog 19 #[.pointer (some ⟨B, 0, none⟩), .int .i64 x] w fun e w' => e = .returned (.tuple #[.bool (aM16 f x), .bool (aB16 f x)]) ∧ Up16 Pf16 X w w' B (aF16 f x) := by
  have H0 := Lib.hid h
  obtain ⟨A, c, M, L, D, h, x0, x1, x2, x3⟩ := h
  have H := Lib.hid h
  obtain ⟨b0, -, -, -, b4⟩ := h.c0
  have HM := Lib.hid (pmade_v B w b0)
  have HQ := Lib.hid hq
  have HX := Lib.hid hx
  have hl0 : B < w.heap.size := cell_lt b0
  have hk := look16 h.mp h.md hx
  have htb := h.tb x
  obtain ⟨v, hv⟩ : ∃ v, f.t x = v := ⟨_, rfl⟩
  rw [hv] at hk htb
  have HV := Lib.hid hv
  clear h b0 x2 x3 hq hx hv
  by_cases h0 : v = 0
  · subst h0
    have HB : Hid (aB16 f x = false) := Lib.hid (by rw [aB16, HV.out]; rfl)
    have HMM : Hid (aM16 f x = false) := Lib.hid (by rw [aM16, HV.out]; rfl)
    have HF : Hid (aF16 f x = f) := Lib.hid (by rw [aF16, if_neg (by rw [HB.out]; decide)])
    go_enter Try.func19, Try.ntmps19
    go_wp2_with fail
    refine HM.out.mono ?_
    rintro e w1 ⟨rfl, rfl⟩
    go_wp2_with fail
    go_ret2
    rw [HB.out, HMM.out, HF.out]
    exact ⟨rfl, X, H0.out, Fr11.refl _ _, fun _ => .inl⟩
  · have g0 : (v == 0) = false := by simpa using h0
    have HB : Hid (aB16 f x = true) := Lib.hid (by rw [aB16, HV.out]; simp; omega)
    have HF : Hid (aF16 f x = bF16 f x (v - 1)) := Lib.hid (by rw [aF16, if_pos HB.out, HV.out])
    have hw1 : IntKind.i64.wrap (v - 1) = v - 1 := by rw [IntKind.wrap_i64]; omega
    have HBG := Lib.hid (pbegin_v X B f x (v - 1) w H0.out (by have := HQ.out; omega) HX.out (by omega))
    go_enter Try.func19, Try.ntmps19
    go_wp2_with fail
    refine HM.out.mono ?_
    rintro e w1 ⟨rfl, rfl⟩
    go_wp2_with fail
    refine HBG.out.mono ?_
    rintro e w2 ⟨rfl, hp, hf⟩
    have HP := Lib.hid hp
    have HFR := Lib.hid hf
    obtain ⟨A, c, M, L, D, h, -⟩ := hp
    obtain ⟨-, -, -, -, c4⟩ := h.c0
    have hk2 := look16 h.mp h.md HX.out
    have hl2 : B < w2.heap.size := (Array.getElem?_eq_some_iff.1 h.box).1
    have hv2 : (bF16 f x (v - 1)).t x = v - 1 := by
      unfold bF16
      simp only [if_true]
      split <;> omega
    rw [hv2] at hk2
    clear h hf hv2 hk
    have HMM : Hid (aM16 f x = decide (1 < v)) := Lib.hid (by rw [aM16, HV.out])
    go_wp2_with fail
    go_ret2
    rw [HB.out, HMM.out, HF.out]
    exact ⟨rfl, X, HP.out, HFR.out, fun _ => .inl⟩
end Go.Proofs.Ytkifapnmojfjoaa
