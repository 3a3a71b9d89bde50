/-
  Layer 7, package method: what Migrates and Zeros answer.
-/
import Derived.Test.YtjdalgejejllgaaDoorHb
import Derived.Test.YtjdalgejejllgaaDoorPv
import Derived.Test.YtjdalgejejllgaaDoorLd
import Derived.OwnWalk
import Derived.Laws.OwnMore
namespace Go.Proofs.YtjdalgejejllgaaDoor
open Go.RowKit
set_option maxRecDepth 100000
set_option linter.unusedSimpArgs false
set_option linter.unusedVariables false

theorem u8idx_v (A : Option Addr) (c n : Nat) (l : List Int) (k : Int) (v : Bool) (w : World) (hr : Rd w A c l) (hn : l.length = n) (hv : l.contains k = v) :
    Calls Tryd.prog 52 #[.slice A n c, .int .u8 k] w fun e w' => ∃ z : Int, e = .returned (.int .i64 z) ∧ decide (0 ≤ z) = v ∧ Below w.heap.size w w' := by
  subst hn
  have hlen := hr.len
  have HR := Lib.hid hr
  have HV := Lib.hid hv
  clear hr hv
  go_enter Tryd.func52, Tryd.ntmps52
  go_wp2_with fail
  go_loopw [5, 8] (fun u i wr => ∃ j : Nat, j ≤ l.length ∧ i = .int .i64 j ∧ Hid (k ∉ l.take j) ∧ Hid (Below w.heap.size w wr)) (fun _ i _ => l.length - (intOf i).toNat)
  case atStart => exact ⟨0, by omega, rfl, by simp [Hid], Below.refl _ _⟩
  case round =>
    obtain ⟨j, hj, rfl, HT, HB⟩ := hrel
    by_cases h1 : j < l.length
    · obtain ⟨ad, rfl, hc⟩ := (HR.out.keep HB.out).at_ h1
      rw [List.getElem?_eq_getElem h1] at hc
      simp only [Option.getD_some] at hc
      by_cases hx : k = l[j]
      · have HN : Hid (v = true) := by
          rw [Hid, ← HV.out, List.contains_iff_mem, hx]
          exact List.getElem_mem h1
        clear HT
        generalize l[j] = x at *
        subst hx
        go_wp2_with fail
        go_ret
        exact ⟨_, rfl, by rw [HN.out]; simp, HB.out⟩
      · have HN : Hid (k ∉ l.take (j + 1)) := by
          rw [Hid, List.take_add_one, List.getElem?_eq_getElem h1]
          simp only [Option.toList_some, List.mem_append, List.mem_singleton, not_or]
          exact ⟨HT.out, hx⟩
        have E : (k == l[j]) = false := by simpa using hx
        clear HT hx
        generalize l[j] = x at *
        go_wp2_with fail
        go_roundw
        case rel => exact ⟨j + 1, by omega, by go_num, HN, HB⟩
        case measure => simp [intOf]; omega
    · obtain rfl : j = l.length := by omega
      have HN : Hid (v = false) := by
        have := HT.out
        rw [List.take_length] at this
        rw [Hid, ← HV.out]
        simpa using this
      clear HT
      go_wp2_with fail
      go_ret
      exact ⟨_, rfl, by rw [HN.out]; rfl, HB.out⟩
theorem u8has_v (A : Option Addr) (c n : Nat) (l : List Int) (k : Int) (v : Bool) (w : World) (hr : Rd w A c l) (hn : l.length = n) (hv : l.contains k = v) :
    Calls Tryd.prog 34 #[.slice A n c, .int .u8 k] w fun e w' => e = .returned (.bool v) ∧ Below w.heap.size w w' := by
  have P1 := Lib.hid (u8idx_v A c n l k v w hr hn hv)
  clear hr hn hv
  go_enter Tryd.func34, Tryd.ntmps34
  go_wp2_with fail
  refine P1.out.mono ?_
  rintro e w1 ⟨z, rfl, hz, hb⟩
  have HB := Lib.hid hb
  clear P1 hb
  go_wp2_with fail
  go_ret
  exact ⟨by rw [← hz]; rfl, HB.out⟩
set_option maxHeartbeats 1000000 in
theorem mmig_v (x : Mc) (m : Mh) (v : Bool) (w : World) (hx : Hd w x m) (hw : GM w) (hv : mG m = v) : Calls Tryd.prog 13 #[mv x m] w fun e w' => e = .returned (.bool v) ∧ Below w.heap.size w w' := by
  have HV := Lib.hid hv
  have S0 := Lib.hid ((((Sx.start w).add fGM hw).add (fH x m) hx).mkM x m)
  clear hx hw hv
  obtain ⟨-, ⟨z0, z1, z2, z3, z4, z5, z6, z7, z8⟩, -⟩ := S0.out
  cases hm : mM m with
  | false =>
    have P1 := Lib.hid (mmay_v x m false _ S0.out.2.2.1 S0.out.2.2.2.1 hm)
    go_enter Tryd.func13, Tryd.ntmps13
    go_wp2_with fail
    refine P1.out.mono ?_
    rintro e w1 ⟨rfl, hb1⟩
    have S1 := Lib.hid (S0.out.call hb1)
    have HM := Lib.hid hm
    clear hb1 P1 S0 z0 z1 z2 z3 z4 z5 z6 z7 z8 hm
    go_wp2_with fail
    go_ret
    exact ⟨by rw [← HV.out, mG, HM.out]; rfl, S1.out.1⟩
  | true =>
    have P1 := Lib.hid (mmay_v x m true _ S0.out.2.2.1 S0.out.2.2.2.1 hm)
    go_enter Tryd.func13, Tryd.ntmps13
    go_wp2_with fail
    refine P1.out.mono ?_
    rintro e w1 ⟨rfl, hb1⟩
    have S1 := Lib.hid (S0.out.call hb1)
    have HM := Lib.hid hm
    clear hb1 P1 S0 z0 z1 z2 z3 z4 z5 z6 z7 z8 hm
    obtain ⟨-, ⟨z0, z1, z2, z3, z4, z5, z6, z7, z8⟩, -⟩ := S1.out
    go_wp2_with fail
    refine (u8has_v x.A x.c _ m.a 3 _ _ S1.out.2.2.1.1 rfl rfl).mono ?_
    rintro e w2 ⟨rfl, hb2⟩
    have S2 := Lib.hid (S1.out.call hb2)
    clear hb2 S1 z0 z1 z2 z3 z4 z5 z6 z7 z8
    obtain ⟨u, hu⟩ : ∃ u, m.a.contains 3 = u := ⟨_, rfl⟩
    have HU := Lib.hid hu
    rw [hu]
    clear hu
    go_wp2_with fail
    go_ret
    exact ⟨by rw [← HV.out, mG, HM.out, HU.out]; simp, S2.out.1⟩
theorem cev_put7 {xs : List Value} {K : List Vlu} {j : Nat} (hj : K.length = j) (hx : xs.take (j * 3) = cev K) (hl : j * 3 + 3 ≤ xs.length) (y : Vlu) :
    (((xs.set (j * 3) (.int .u8 y.1)).set (j * 3 + 1) (.int .i64 y.2.1)).set (j * 3 + 2) (.int .i64 y.2.2)).take ((j + 1) * 3) = cev (K ++ [y]) := by
  have h3 : (cev K).length = j * 3 := by rw [length_cev, hj]
  have hd : xs = cev K ++ xs.drop (j * 3) := by rw [← hx, List.take_append_drop]
  have hdl : 3 ≤ (xs.drop (j * 3)).length := by rw [List.length_drop]; omega
  match hr : xs.drop (j * 3), hdl with
  | u :: v :: t :: r, _ =>
    rw [hr] at hd
    rw [hd, List.set_append_right _ _ (by omega), h3, Nat.sub_self, List.set_cons_zero, List.set_append_right _ _ (by omega), h3, show j * 3 + 1 - j * 3 = 0 + 1 by omega, List.set_cons_succ, List.set_cons_zero,
      List.set_append_right _ _ (by omega), h3, show j * 3 + 2 - j * 3 = 0 + 1 + 1 by omega, List.set_cons_succ, List.set_cons_succ, List.set_cons_zero, List.take_append, h3, List.take_of_length_le (by omega),
      show (j + 1) * 3 - j * 3 = 3 by omega, cev_append, cev_cons]
    rfl
theorem mZ_t {m : Mh} (h : mM m = true) : mZ m = m.l.map fun k => (k, 0, 0) := by rw [mZ, if_pos h]
theorem mZ_f {m : Mh} (h : mM m = false) : mZ m = [] := by rw [mZ, if_neg (by rw [h]; decide)]
theorem mzeros_f (x : Mc) (m : Mh) (w : World) (hx : Hd w x m) (hw : GM w) (hv : mM m = false) : Calls Tryd.prog 21 #[mv x m] w fun e w' => e = .returned (.tuple #[.slice none 0 0, .bool false]) ∧ Below w.heap.size w w' := by
  have S0 := Lib.hid ((((Sx.start w).add fGM hw).add (fH x m) hx).mkM x m)
  clear hx hw
  obtain ⟨-, ⟨z0, z1, z2, z3, z4, z5, z6, z7, z8⟩, -⟩ := S0.out
  have P1 := Lib.hid (mmay_v x m false _ S0.out.2.2.1 S0.out.2.2.2.1 hv)
  clear hv
  go_enter Tryd.func21, Tryd.ntmps21
  go_wp2_with fail
  refine P1.out.mono ?_
  rintro e w1 ⟨rfl, hb1⟩
  have S1 := Lib.hid (S0.out.call hb1)
  clear hb1 P1 S0 z0 z1 z2 z3 z4 z5 z6 z7 z8
  go_wp2_with fail
  go_ret2
  exact ⟨rfl, S1.out.1⟩
set_option maxHeartbeats 4000000 in
theorem mzeros_t (x : Mc) (m : Mh) (M : Nat) (hM : m.l.length = M) (w : World) (hx : Hd w x m) (hw : GM w) (hv : mM m = true) : Calls Tryd.prog 21 #[mv x m] w fun e w' => ∃ A c, e = .returned (.tuple #[.slice A M c, .bool true]) ∧
    w'.ownsRow w.heap.size 42 3 (.slice A M c) M (cev (m.l.map fun k => (k, 0, 0))) ∧ Below w.heap.size w w' := by
  have S0 := Lib.hid ((((Sx.start w).add fGM hw).add (fH x m) hx).mkM x m)
  obtain ⟨XB, hXB⟩ : ∃ XB, x.B = XB := ⟨_, rfl⟩
  have HR := Lib.hid hx.2.1
  rw [hXB] at HR
  have hMM := mM_iff.1 hv
  have hl16 : m.l.length ≤ 16 := by omega
  have HK : Hid (∀ k ∈ m.l, 1 ≤ k ∧ k ≤ 3) := fun k hk => kO_at hMM.2.2.2.1 hk
  clear hx hw
  obtain ⟨-, ⟨z0, z1, z2, z3, z4, z5, z6, z7, z8⟩, -⟩ := S0.out
  have P1 := Lib.hid (mmay_v x m true _ S0.out.2.2.1 S0.out.2.2.2.1 hv)
  have HE := Lib.hid (And.intro hM hXB)
  rw [hM] at hl16
  clear hv hMM hM hXB
  go_enter Tryd.func21, Tryd.ntmps21
  go_wp2_with fail
  refine P1.out.mono ?_
  rintro e w1 ⟨rfl, hb1⟩
  have S1 := Lib.hid (S0.out.call hb1)
  clear hb1 P1 S0 z0 z1 z2 z3 z4 z5 z6 z7 z8
  obtain ⟨-, ⟨z0, z1, z2, z3, z4, z5, z6, z7, z8⟩, -⟩ := S1.out
  have hsz1 := S1.out.1.size
  have hinfo := Tryd.infoV
  rw [Option.map_eq_some_iff] at hinfo
  obtain ⟨i0, hi, hz⟩ := hinfo
  simp only [Prod.mk.injEq] at hz
  obtain ⟨hz0, hz1, hz2⟩ := hz
  have hM := HE.out.1
  have hXB := HE.out.2
  rw [hM, hXB] at z2
  go_wp2_with (at_make; refine wpList_make_full _ rfl _ _ 26 rfl w.heap.size 42 i0 _ 3 Tryd.underlying26 hi hz0 hz1 .i64 .i64 M M M rfl rfl rfl rfl (by rw [hz2]; omega) (by unfold maxLen; omega) hsz1 ?_)
  intro w2 ho2 hg2
  obtain ⟨xs0, hx0⟩ : ∃ xs0, (madeCells #[.int .u8 0, .int .i64 0, .int .i64 0] (M * 3)).toList = xs0 := ⟨_, rfl⟩
  rw [hx0] at ho2
  have HO2 := Lib.hid ho2
  have S2 := Lib.hid (S1.out.call ⟨hg2.os, hg2.tape, hg2.output, hg2.size, fun i hi => hg2.block i hi (by simp)⟩)
  clear ho2 hg2 hx0 hi hz0 hz1 hz2 i0 S1 z0 z1 z2 z3 z4 z5 z6 z7 z8
  obtain ⟨-, ⟨z0, z1, z2, z3, z4, z5, z6, z7, z8⟩, -⟩ := S2.out
  have HB2 := Lib.hid S2.out.1
  rw [hM, hXB] at z2
  generalize hg : w1.heap.size = g at *
  have hwg : w.heap.size ≤ g := by omega
  clear hg hsz1 S2
  go_wp2_with fail
  clear z0 z1 z2 z3 z4 z5 z6 z7 z8
  have HM := Lib.hid hM
  clear hM
  go_loopw [17] (fun i wr => ∃ (j : Nat) (xs : List Value), j ≤ M ∧ i = .int .i64 j ∧ Hid (wr.ownsRow w.heap.size 42 3 (.slice (some ⟨g, 0, none⟩) M M) M xs ∧ xs.take (j * 3) = cev ((m.l.take j).map fun k => (k, 0, 0))) ∧ Hid (Below w.heap.size w wr)) (fun i _ => M - (intOf i).toNat)
  case atStart => exact ⟨0, xs0, by omega, rfl, Lib.hid ⟨HO2.out, by simp [cev]⟩, HB2⟩
  case round =>
    obtain ⟨j, xs, hj, rfl, HO, HB⟩ := hrel
    clear HO2 HB2
    by_cases h1 : j < M
    · have h1l : j < m.l.length := by rw [HM.out]; exact h1
      obtain ⟨ad, rfl, hc⟩ := (HR.out.keep HB.out).at_ h1l
      rw [List.getElem?_eq_getElem h1l] at hc
      simp only [Option.getD_some] at hc
      have hk := HK.out _ (List.getElem_mem h1l)
      have HT : Hid ((m.l.take (j + 1)).map (fun k => ((k, 0, 0) : Vlu)) = (m.l.take j).map (fun k => ((k, 0, 0) : Vlu)) ++ [(m.l[j], 0, 0)]) := by
        rw [Hid, List.take_add_one, List.getElem?_eq_getElem h1l, List.map_append]
        rfl
      have HJ : Hid (((m.l.take j).map (fun k => ((k, 0, 0) : Vlu))).length = j) := by
        rw [Hid]
        simp
        omega
      generalize m.l[j] = k at *
      go_wp2_with fail
      refine (vzero_t k wr (by unfold kB; simp; omega)).mono ?_
      rintro e w3 ⟨rfl, hb3⟩
      have HB3 := Lib.hid (below_on HB.out hb3)
      have HO3 := Lib.hid (own_below HO.out.1 hb3 (Nat.le_refl _))
      have HT3 := Lib.hid HO.out.2
      clear hb3 HB hc HO
      have hxl : xs.length = M * 3 := by simpa using HO3.out.1
      have c0 := HO3.out.cellAt (j * 3) (by omega)
      have c1 := HO3.out.cellAt (j * 3 + 1) (by omega)
      have c2 := HO3.out.cellAt (j * 3 + 2) (by omega)
      have f0 := HO3.out.frozenAt (j * 3)
      have f1 := HO3.out.frozenAt (j * 3 + 1)
      have f2 := HO3.out.frozenAt (j * 3 + 2)
      rw [List.getElem?_eq_getElem (by omega)] at c0 c1 c2
      have HO8 := Lib.hid (((((HO3.out.stored (j * 3) (.int .u8 k)).1).stored (j * 3 + 1) (.int .i64 0)).1).stored (j * 3 + 2) (.int .i64 0)).1
      have HP := Lib.hid (cev_put7 HJ.out HT3.out (by omega) (k, 0, 0))
      have HB8 := Lib.hid (((HB3.out.setCell (p := ⟨g, j * 3, none⟩) hwg (.int .u8 k)).setCell (p := ⟨g, j * 3 + 1, none⟩) hwg (.int .i64 0)).setCell (p := ⟨g, j * 3 + 2, none⟩) hwg (.int .i64 0))
      clear HO3 HB3 HT3 HJ
      go_wp2_with fail
      go_roundw
      case rel => exact ⟨j + 1, _, by omega, by go_num, Lib.hid ⟨HO8.out, by rw [HT.out]; exact HP.out⟩, HB8⟩
      case measure => simp [intOf]; omega
    · obtain rfl : j = M := by omega
      have hxl : xs.length = j * 3 := by simpa using HO.out.1.1
      have HN : Hid (xs = cev (m.l.map fun k => (k, 0, 0))) := by
        have := HO.out.2
        rw [← HM.out] at this
        rw [List.take_length, HM.out, List.take_of_length_le (by omega)] at this
        exact this
      have HO3 := Lib.hid HO.out.1
      clear HO hxl
      have hN := HN.out
      clear HN
      subst xs
      go_wp2_with fail
      go_ret2
      exact ⟨some ⟨g, 0, none⟩, j, rfl, HO3.out, HB.out⟩
theorem mzeros_v (x : Mc) (m : Mh) (v : Bool) (w : World) (hx : Hd w x m) (hw : GM w) (hv : mM m = v) : Calls Tryd.prog 21 #[mv x m] w fun e w' => ∃ A c, e = .returned (.tuple #[.slice A (mZ m).length c, .bool v]) ∧
    w'.ownsRow w.heap.size 42 3 (.slice A (mZ m).length c) (mZ m).length (cev (mZ m)) ∧ Below w.heap.size w w' := by
  cases v with
  | false =>
    refine (mzeros_f x m w hx hw hv).mono ?_
    rintro e w' ⟨rfl, hb⟩
    rw [mZ_f hv]
    exact ⟨none, 0, rfl, World.ownsRow_nil _ _ _ _, hb⟩
  | true =>
    refine (mzeros_t x m _ rfl w hx hw hv).mono ?_
    rintro e w' ⟨A, c, rfl, ho, hb⟩
    rw [mZ_t hv]
    exact ⟨A, c, by simp, by simpa using ho, hb⟩
end Go.Proofs.YtjdalgejejllgaaDoor
