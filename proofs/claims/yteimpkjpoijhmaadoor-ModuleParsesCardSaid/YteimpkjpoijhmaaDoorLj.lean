/-
  Qm, Qb, Qr: in one text.
-/
import Derived.Test.YteimpkjpoijhmaaDoorLi
import Derived.Test.YteimpkjpoijhmaaDoorLd
import Derived.OwnWalk
import Derived.Laws.OwnMore
namespace Go.Proofs.YteimpkjpoijhmaaDoor
open Go.RowKit
set_option maxRecDepth 100000
set_option linter.unusedSimpArgs false
set_option linter.unusedVariables false

theorem pmay_any (A : Option Addr) (c m : Nat) (L : List Vlu) (w : World) (hr : Rv w A c L) (hm : L.length = m) : Calls Tryd.prog 20 #[.slice A m c] w fun e w' => e = .returned (.bool (poM L)) ∧ Below w.heap.size w w' := by
  subst hm
  have hlen := hr.len
  have HR := Lib.hid hr
  clear hr
  by_cases h0 : L.length ≤ 32
  · have HC : Hid (poM L = L.all vM) := by rw [Hid, poM, decide_eq_true h0, Bool.true_and]
    go_enter Tryd.func20, Tryd.ntmps20
    go_wp2_with fail
    go_loopw [10] (fun i wr => ∃ j : Nat, j ≤ L.length ∧ i = .int .i64 j ∧ Hid ((L.take j).all vM = true) ∧ Hid (Below w.heap.size w wr)) (fun i _ => L.length - (intOf i).toNat)
    case atStart => exact ⟨0, by omega, rfl, rfl, Lib.hid (Below.refl _ _)⟩
    case round =>
      obtain ⟨j, hj, rfl, HA, HB⟩ := hrel
      by_cases h1 : j < L.length
      · obtain ⟨ad, rfl, hc0, hc1, hc2⟩ := (HR.out.keep HB.out).at_ h1
        go_wp2_with fail
        refine (vmay_v L[j].1 L[j].2.1 L[j].2.2 _ _ rfl).mono ?_
        rintro e w1 ⟨rfl, hb1⟩
        have HB1 := Lib.hid (below_on (below_on HB.out new1) hb1)
        clear hb1 hc0 hc1 hc2 HB
        cases hv : mayB L[j].1 L[j].2.1 L[j].2.2 with
        | true =>
          have HN : Hid ((L.take (j + 1)).all vM = true) := by
            rw [Hid, List.take_add_one, List.getElem?_eq_getElem h1]
            simp only [Option.toList_some, List.all_append, HA.out, List.all_cons, List.all_nil, Bool.and_true, Bool.true_and]
            exact hv
          clear HA
          go_wp2_with fail
          go_roundw
          case rel => exact ⟨j + 1, by omega, by go_num, HN, HB1⟩
          case measure => simp [intOf]; omega
        | false =>
          have HN : Hid (poM L = false) := by
            have : L.all vM = false := List.all_eq_false.2 ⟨L[j], List.getElem_mem h1, by simp [vM, hv]⟩
            rw [Hid, HC.out, this]
          go_wp2_with fail
          go_ret
          exact ⟨by rw [HN.out]; rfl, HB1.out⟩
      · obtain rfl : j = L.length := by omega
        have HN : Hid (poM L = true) := by
          have h2 := HA.out
          rw [List.take_length] at h2
          rw [Hid, HC.out, h2]
        clear HA
        go_wp2_with fail
        go_ret
        exact ⟨by rw [HN.out]; rfl, HB.out⟩
  · have HN : Hid (poM L = false) := by rw [Hid, poM, decide_eq_false h0]; rfl
    go_enter Tryd.func20, Tryd.ntmps20
    go_wp2_with fail
    go_ret
    exact ⟨by rw [HN.out]; rfl, Below.refl _ _⟩
theorem kpmay (F : Fct) : KPMay F := fun A c m L w _ hr hm _ => pmay_any A c m L w hr hm
end Go.Proofs.YteimpkjpoijhmaaDoor
namespace Go.Proofs.YteimpkjpoijhmaaDoor
open Go.RowKit
set_option maxRecDepth 100000
set_option linter.unusedSimpArgs false
set_option linter.unusedVariables false

theorem put_1 {n : Int} (h0 : 0 ≤ n) (h : n < 256) : putL 1 n = [n] ∧ putE 1 n = 0 := by
  have := put_yes (k := 1) (n := n) (by omega) (by omega) h0 (by simpa [p256] using h)
  rw [show ((1 : Nat) : Int) = 1 from rfl] at this
  refine ⟨?_, this.1⟩
  rw [this.2]
  simp [digs]
  omega
set_option maxHeartbeats 2000000 in
theorem kpbytes : KPBytes fG := by
  intro A c m L w hw hr hm _
  subst hm
  obtain ⟨i0, hi, hz0, hz1, hz2⟩ := info_parts Tryd.info5
  cases hc : poM L with
  | false =>
    have HC := Lib.hid hc
    rw [poL, if_neg (by rw [hc]; decide), poE, if_neg (by rw [hc]; decide)]
    clear hc
    go_enter Tryd.func21, Tryd.ntmps21
    go_wp2_with fail
    refine (pmay_any A c _ L _ hr rfl).mono ?_
    rintro e w1 ⟨rfl, hb1⟩
    rw [HC.out]
    go_wp2_with fail
    go_ret2
    exact ⟨none, 0, rfl, World.ownsRow_nil _ _ _ _, hb1⟩
  | true =>
    have HC := Lib.hid hc
    rw [poL, if_pos hc, poE, if_pos hc]
    have hl2 := poM_le hc
    have HALL := Lib.hid (poM_at hc)
    have HOK := Lib.hid hr.1
    have S0 := Lib.hid (((Sx.start w).add fG hw).add (fW A c L) hr)
    have S00 : Hid (∀ w', Below w.heap.size w w' → Sx w w' [fW A c L, fG]) := Lib.hid fun w' hb => S0.out.call hb
    obtain ⟨hp1, hp2⟩ := put_1 (n := L.length) (by omega) (by omega)
    have P := fun w => Lib.hid (put_any 1 L.length w)
    rw [hp1, hp2] at P
    clear hc hr hw hp1 hp2
    go_enter Tryd.func21, Tryd.ntmps21
    go_wp2_with fail
    refine (pmay_any A c _ L _ S0.out.2.1 rfl).mono ?_
    rintro e w1 ⟨rfl, hb1⟩
    rw [HC.out]
    have S1 := Lib.hid (S0.out.call hb1)
    clear hb1 S0
    go_wp2_with fail
    refine (P _).out.mono ?_
    rintro e w2 ⟨A2, c2, rfl, ho2, hb2⟩
    have S2 := Lib.hid (S1.out.call hb2)
    have HO2 := Lib.hid (own_base ho2 S1.out.1.size)
    clear ho2 hb2 S1 P
    go_wp2_with fail
    go_loopw [4, 21] (fun o i wr => ∃ (j : Nat) (A' : Option Addr) (c' : Nat) (X : List Int) (N : Nat), j ≤ L.length ∧ i = .int .i64 j ∧ o = .slice A' N c' ∧ N ≤ 1 + 9 * j ∧ Hid (X = (L.length : Int) :: (L.take j).flatMap vB ∧ X.length = N ∧ wr.ownsRow w.heap.size 5 1 (.slice A' N c') N (cel X)) ∧ Hid (Sx w wr [fW A c L, fG]))
      (fun _ i _ => L.length - (intOf i).toNat)
    case atStart => exact ⟨0, _, _, [(L.length : Int)], 1, by omega, rfl, rfl, by omega, Lib.hid ⟨by simp, rfl, HO2.out⟩, S2⟩
    case round =>
      obtain ⟨j, A', c', X, N, hj, rfl, rfl, hN, HX, S3⟩ := hrel
      clear HO2 S2
      by_cases h1 : j < L.length
      · obtain ⟨ad, rfl, x0, x1, x2⟩ := S3.out.2.1.at_ h1
        have HV := Lib.hid (HALL.out _ (List.getElem_mem h1))
        have HQ := Lib.hid (HOK.out _ (List.getElem_mem h1))
        have HL : Hid (L.take (j + 1) = L.take j ++ [L[j]]) := by rw [Hid, List.take_add_one, List.getElem?_eq_getElem h1]; rfl
        generalize L[j] = x at *
        have hbl := vB_len x
        have S4 := Lib.hid (S3.out.mk1 (.cells #[.int .u8 x.1, .int .i64 x.2.1, .int .i64 x.2.2] 67))
        have HO4 := Lib.hid (own_below HX.out.2.2 (new1 (a := .cells #[.int .u8 x.1, .int .i64 x.2.1, .int .i64 x.2.2] 67)) (Nat.le_refl _))
        have HX1 := Lib.hid HX.out.1
        have HX2 := Lib.hid HX.out.2.1
        clear HX S3
        go_wp2_with fail
        refine (vbytes_v x.1 x.2.1 x.2.2 0 (vB x) _ _ S4.out.2.2.1 ⟨bytE_of HV.out, bytL_of HV.out, rfl⟩).mono ?_
        rintro e w3 ⟨A3, c3, rfl, ho3, hb3⟩
        have HR1 := Lib.hid (own_rd ho3 (vB_byt x))
        have HO5 := Lib.hid (own_below HO4.out hb3 (Nat.le_refl _))
        have S5 := Lib.hid (S4.out.call hb3)
        clear ho3 hb3 x0 x1 x2 S4 HO4
        go_wp2_with (at_builtin; refine wpList_append_rd _ rfl _ _ 28 rfl w.heap.size 5 i0 Tryd.underlying28 hi hz0 hz1 hz2 _ N X rfl HO5.out _ _ _ (vB x) rfl HR1.out rfl (by omega) S5.out.1.size ?_)
        intro A2 c2 w4 ho4 hg4 hb4 _
        have HO6 := Lib.hid ho4
        have S6 := Lib.hid (show Sx w w4 [fW (some ad) c L, fG] from S00.out w4 (S5.out.1.trans hb4))
        clear ho4 hg4 hb4 HO5 HR1 S5
        go_wp2_with fail
        go_roundw
        case rel => exact ⟨j + 1, A2, c2, _, N + (vB x).length, by omega, by go_num, rfl, by omega, Lib.hid ⟨by rw [HX1.out, HL.out, List.flatMap_append, List.flatMap_cons, List.flatMap_nil, List.append_nil, List.cons_append], by rw [List.length_append, HX2.out], HO6.out⟩, S6⟩
        case measure => simp [intOf]; omega
      · obtain rfl : j = L.length := by omega
        have hx := HX.out
        rw [List.take_length, ← poB] at hx
        obtain ⟨rfl, rfl, ho⟩ := hx
        have HO := Lib.hid ho
        clear ho HX
        go_wp2_with fail
        go_ret2
        exact ⟨A', c', rfl, HO.out, S3.out.1⟩
end Go.Proofs.YteimpkjpoijhmaaDoor
namespace Go.Proofs.YteimpkjpoijhmaaDoor
open Go.RowKit
set_option maxRecDepth 100000
set_option linter.unusedSimpArgs false
set_option linter.unusedVariables false

theorem cev_put {xs : List Value} {K : List Vlu} {j : Nat} (hj : K.length = j) (hx : xs.take (j * 3) = cev K) (hl : j * 3 + 3 ≤ xs.length) (y : Vlu) :
    (((xs.set (j * 3) (.int .u8 y.1)).set (j * 3 + 1) (.int .i64 y.2.1)).set (j * 3 + 2) (.int .i64 y.2.2)).take ((j + 1) * 3) = cev (K ++ [y]) := by
  have h3 : (cev K).length = j * 3 := by rw [length_cev, hj]
  have hd : xs = cev K ++ xs.drop (j * 3) := by rw [← hx, List.take_append_drop]
  have hdl : 3 ≤ (xs.drop (j * 3)).length := by rw [List.length_drop]; omega
  match hr : xs.drop (j * 3), hdl with
  | u :: v :: t :: r, _ =>
    rw [hr] at hd
    rw [hd, List.set_append_right _ _ (by omega), h3, Nat.sub_self, List.set_cons_zero, List.set_append_right _ _ (by omega), h3, show j * 3 + 1 - j * 3 = 0 + 1 by omega, List.set_cons_succ, List.set_cons_zero,
      List.set_append_right _ _ (by omega), h3, show j * 3 + 2 - j * 3 = 0 + 1 + 1 by omega, List.set_cons_succ, List.set_cons_succ, List.set_cons_zero, List.take_append, h3, List.take_of_length_le (by omega),
      show (j + 1) * 3 - j * 3 = 3 by omega, cev_append, cev_cons]
    rfl
set_option maxHeartbeats 4000000 in
theorem preadw_any (A : Option Addr) (c n : Nat) (l : List Int) (p : Int) (w : World) (hw : GW w) (hr : Rd w A c l) (hn : l.length = n) :
    Calls Tryd.prog 76 #[.slice A n c, .int .i64 p] w fun e w' => ∃ A' c', e = .returned (.tuple #[.slice A' (rdP l p).1.length c', .int .i64 (rdP l p).2.1, .int .i64 (rdP l p).2.2]) ∧
      Rv w' A' c' (rdP l p).1 ∧ w'.ownsRow w.heap.size 67 3 (.slice A' (rdP l p).1.length c') (rdP l p).1.length (cev (rdP l p).1) ∧ Below w.heap.size w w' := by
  subst hn
  have hlen := hr.len
  have S00 : Hid (∀ w', Below w.heap.size w w' → Rd w' A c l ∧ GW w') := Lib.hid fun w' hb => ⟨hr.keep hb, fG.keep w w' hw hb⟩
  have HBY := Lib.hid hr.byt
  have HG := Lib.hid (get_any A c l p 1 w hr)
  have HGb : Hid (getE l p 1 = 0 → 0 ≤ getV l p 1) := fun h => by rw [getV, if_pos h]; exact num_nonneg (byt_cut hr.byt _ _)
  have HE : Hid (getE l p 1 ≠ 0 → rdP l p = ([], 0, getE l p 1)) := fun h => by rw [rdP, if_neg h]
  have HL : Hid (getE l p 1 = 0 → 32 < getV l p 1 → rdP l p = ([], 0, 60)) := fun h h2 => by rw [rdP, if_pos h, if_pos h2]
  have HS : Hid (getE l p 1 = 0 → ¬ 32 < getV l p 1 → rdP l p = rpS l (getV l p 1).toNat (getN l p 1)) := fun h h2 => by rw [rdP, if_pos h, if_neg h2]
  generalize rdP l p = R at *
  generalize getE l p 1 = e0 at *
  generalize getV l p 1 = many at *
  generalize getN l p 1 = q0 at *
  clear hr hw
  go_enter Tryd.func76, Tryd.ntmps76
  go_wp2_with fail
  refine HG.out.mono ?_
  rintro e w1 ⟨rfl, hb1⟩
  have HB1 := Lib.hid hb1
  clear HG hb1
  by_cases he : e0 = 0
  · subst he
    by_cases hm : 32 < many
    · have HN := Lib.hid (HL.out rfl hm)
      clear HE HL HS HGb
      go_wp2_with fail
      go_ret3
      obtain rfl := HN.out
      exact ⟨none, 0, rfl, Rv.none_ _, World.ownsRow_nil _ _ _ _, HB1.out⟩
    · have hm0 := HGb.out rfl
      obtain ⟨M, rfl⟩ : ∃ M : Nat, many = M := ⟨many.toNat, by omega⟩
      have HI : Hid (R = apV [] (rpS l (M - 0) q0)) := by rw [Hid, rpS_form]; exact HS.out rfl (by omega)
      have hsz1 := HB1.out.size
      clear HE HL HS HGb
      have hinfo := Tryd.infoV
      rw [Option.map_eq_some_iff] at hinfo
      obtain ⟨i0, hi, hz⟩ := hinfo
      simp only [Prod.mk.injEq] at hz
      obtain ⟨hz0, hz1, hz2⟩ := hz
      go_wp2_with (at_make; refine wpList_make_full _ rfl _ _ 22 rfl w.heap.size 67 i0 _ 3 Tryd.underlying22 hi hz0 hz1 .i64 .i64 M M M rfl rfl rfl rfl (by rw [hz2]; omega) (by unfold maxLen; omega) hsz1 ?_)
      intro w2 ho2 hg2
      obtain ⟨xs0, hx0⟩ : ∃ xs0, (madeCells #[.int .u8 0, .int .i64 0, .int .i64 0] (M * 3)).toList = xs0 := ⟨_, rfl⟩
      rw [hx0] at ho2
      have HO2 := Lib.hid ho2
      have HB2 := Lib.hid (below_on HB1.out ⟨hg2.os, hg2.tape, hg2.output, hg2.size, fun i hi => hg2.block i hi (by simp)⟩)
      clear ho2 hg2 hx0 hi hz0 hz1 hz2 i0
      generalize hg : w1.heap.size = g at *
      have hwg : w.heap.size ≤ g := by omega
      clear hg hsz1
      go_wp2_with fail
      go_loopw [4, 5, 25] (fun r o i wr => ∃ (j : Nat) (q : Int) (K : List Vlu) (xs : List Value), j ≤ M ∧ i = .int .i64 j ∧ o = .int .i64 q ∧ r = .slice (some ⟨g, 0, none⟩) M M ∧ Hid (R = apV K (rpS l (M - j) q) ∧ K.length = j ∧ (∀ x ∈ K, VlOk x)) ∧ Hid (wr.ownsRow w.heap.size 67 3 (.slice (some ⟨g, 0, none⟩) M M) M xs ∧ xs.take (j * 3) = cev K) ∧ Hid (Below w.heap.size w wr)) (fun _ _ i _ => M - (intOf i).toNat)
      case atStart => exact ⟨0, q0, [], xs0, by omega, rfl, rfl, rfl, Lib.hid ⟨HI.out, rfl, fun x hx => (by cases hx)⟩, Lib.hid ⟨HO2.out, by simp [cev]⟩, HB2⟩
      case round =>
        obtain ⟨j, q, K, xs, hj, rfl, rfl, rfl, HX, HO, HB⟩ := hrel
        clear HI HO2 HB2
        by_cases h1 : j < M
        · obtain ⟨x, a, b, n2, e2, hrd⟩ : ∃ x a b n2 e2, rdT l q = (x, a, b, n2, e2) := ⟨_, _, _, _, _, rfl⟩
          have HRD := Lib.hid hrd
          have hok := rdT_vok HBY.out hrd
          have HOK := Lib.hid hok
          have HK := fun w hr hw => Lib.hid (vread_v A c l q x a b n2 e2 w hr hw hrd)
          clear hrd hok
          go_wp2_with fail
          refine (HK _ (S00.out _ HB.out).1 (S00.out _ HB.out).2).out.mono ?_
          rintro e w3 ⟨rfl, hb3⟩
          have HB3 := Lib.hid (below_on HB.out hb3)
          have HO3 := Lib.hid (own_below HO.out.1 hb3 (Nat.le_refl _))
          clear HK hb3 HB
          have hxl : xs.length = M * 3 := by simpa using HO3.out.1
          have c0 := HO3.out.cellAt (j * 3) (by omega)
          have c1 := HO3.out.cellAt (j * 3 + 1) (by omega)
          have c2 := HO3.out.cellAt (j * 3 + 2) (by omega)
          have f0 := HO3.out.frozenAt (j * 3)
          have f1 := HO3.out.frozenAt (j * 3 + 1)
          have f2 := HO3.out.frozenAt (j * 3 + 2)
          rw [List.getElem?_eq_getElem (by omega)] at c0 c1 c2
          have HO8 := Lib.hid (((((HO3.out.stored (j * 3) (.int .u8 x)).1).stored (j * 3 + 1) (.int .i64 a)).1).stored (j * 3 + 2) (.int .i64 b)).1
          have HP := Lib.hid (cev_put HX.out.2.1 HO.out.2 (by omega) (x, a, b))
          have HB8 := Lib.hid (((HB3.out.setCell (p := ⟨g, j * 3, none⟩) hwg (.int .u8 x)).setCell (p := ⟨g, j * 3 + 1, none⟩) hwg (.int .i64 a)).setCell (p := ⟨g, j * 3 + 2, none⟩) hwg (.int .i64 b))
          by_cases he2 : e2 = 0
          · subst he2
            have HX8 : Hid (R = apV (K ++ [(x, a, b)]) (rpS l (M - (j + 1)) n2) ∧ (K ++ [(x, a, b)]).length = j + 1 ∧ ∀ y ∈ K ++ [(x, a, b)], VlOk y) := by
              refine ⟨by rw [HX.out.1, show M - j = (M - (j + 1)) + 1 by omega, rpS_yes HRD.out, apV_apV], by rw [List.length_append, HX.out.2.1]; rfl, fun y hy => ?_⟩
              rcases List.mem_append.1 hy with hy | hy
              · exact HX.out.2.2 y hy
              · rw [List.mem_singleton.1 hy]; exact HOK.out
            clear HX HO HO3 HB3 HRD
            go_wp2_with fail
            go_roundw
            case rel => exact ⟨j + 1, n2, K ++ [(x, a, b)], _, by omega, by go_num, rfl, rfl, HX8, Lib.hid ⟨HO8.out, HP.out⟩, HB8⟩
            case measure => simp [intOf]; omega
          · have HN : Hid (R = ([], 0, e2)) := by
              rw [Hid, HX.out.1, show M - j = (M - (j + 1)) + 1 by omega, rpS_no HRD.out he2, apV_no _ he2]
            clear HX HRD HO HO3 HB3
            go_wp2_with fail
            go_ret3
            obtain rfl := HN.out
            exact ⟨none, 0, rfl, Rv.none_ _, World.ownsRow_nil _ _ _ _, HB8.out⟩
        · obtain rfl : j = M := by omega
          have hxl : xs.length = j * 3 := by simpa using HO.out.1.1
          have hxs : xs = cev K := by rw [← HO.out.2, List.take_of_length_le (by omega)]
          have HRv := Lib.hid (Rv.of_own (L := K) (by have := HO.out.1; rwa [hxs] at this) HX.out.2.2).1
          have HOw : Hid (wr.ownsRow w.heap.size 67 3 (.slice (some ⟨g, 0, none⟩) K.length j) K.length (cev K)) := by
            have := HO.out.1
            rw [hxs] at this
            rw [HX.out.2.1]
            exact this
          have HN : Hid (R = (K, q, 0)) := by
            rw [Hid, HX.out.1, Nat.sub_self, rpS, apV, if_pos rfl, List.append_nil]
          have HL := Lib.hid HX.out.2.1
          clear HX HO hxl hxs
          go_wp2_with fail
          go_ret3
          obtain rfl := HN.out
          exact ⟨some ⟨g, 0, none⟩, j, by simp [HL.out], HRv.out, HOw.out, HB.out⟩
  · have HN := Lib.hid (HE.out he)
    clear HE HL HS HGb
    go_wp2_with fail
    go_ret3
    obtain rfl := HN.out
    exact ⟨none, 0, rfl, Rv.none_ _, World.ownsRow_nil _ _ _ _, HB1.out⟩
theorem pread_any (A : Option Addr) (c n : Nat) (l : List Int) (p : Int) (w : World) (hw : GW w) (hr : Rd w A c l) (hn : l.length = n) :
    Calls Tryd.prog 76 #[.slice A n c, .int .i64 p] w fun e w' => ∃ A' c', e = .returned (.tuple #[.slice A' (rdP l p).1.length c', .int .i64 (rdP l p).2.1, .int .i64 (rdP l p).2.2]) ∧
      Rv w' A' c' (rdP l p).1 ∧ Below w.heap.size w w' :=
  (preadw_any A c n l p w hw hr hn).mono fun _ _ ⟨A', c', h1, h2, _, h3⟩ => ⟨A', c', h1, h2, h3⟩
theorem kpread : KPRead fG := fun A c n l p w hw hr hn => pread_any A c n l p w hw hr hn
end Go.Proofs.YteimpkjpoijhmaaDoor
