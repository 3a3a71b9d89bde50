/-
  Layer 6, package pool: what Read answers, at every place.
-/
import Derived.Test.YtohbndjfnakelaaDoorQb
import Derived.OwnWalk
import Derived.Laws.OwnMore
namespace Go.Proofs.YtohbndjfnakelaaDoor
open Go.RowKit
set_option maxRecDepth 100000
set_option linter.unusedSimpArgs false
set_option linter.unusedVariables false

theorem cev_put {xs : List Value} {K : List Vlu} {j : Nat} (hj : K.length = j) (hx : xs.take (j * 3) = cev K) (hl : j * 3 + 3 ≤ xs.length) (y : Vlu) :
    (((xs.set (j * 3) (.int .u8 y.1)).set (j * 3 + 1) (.int .i64 y.2.1)).set (j * 3 + 2) (.int .i64 y.2.2)).take ((j + 1) * 3) = cev (K ++ [y]) := by
  have h3 : (cev K).length = j * 3 := by rw [length_cev, hj]
  have hd : xs = cev K ++ xs.drop (j * 3) := by rw [← hx, List.take_append_drop]
  have hdl : 3 ≤ (xs.drop (j * 3)).length := by rw [List.length_drop]; omega
  match hr : xs.drop (j * 3), hdl with
  | u :: v :: t :: r, _ =>
    rw [hr] at hd
    rw [hd, List.set_append_right _ _ (by omega), h3, Nat.sub_self, List.set_cons_zero, List.set_append_right _ _ (by omega), h3, show j * 3 + 1 - j * 3 = 0 + 1 by omega, List.set_cons_succ, List.set_cons_zero,
      List.set_append_right _ _ (by omega), h3, show j * 3 + 2 - j * 3 = 0 + 1 + 1 by omega, List.set_cons_succ, List.set_cons_succ, List.set_cons_zero, List.take_append, h3, List.take_of_length_le (by omega),
      show (j + 1) * 3 - j * 3 = 3 by omega, cev_append, cev_cons]
    rfl
set_option maxHeartbeats 4000000 in
theorem pread_any (A : Option Addr) (c n : Nat) (l : List Int) (p : Int) (w : World) (hw : GW w) (hr : Rd w A c l) (hn : l.length = n) :
    Calls Tryd.prog 17 #[.slice A n c, .int .i64 p] w fun e w' => ∃ A' c', e = .returned (.tuple #[.slice A' (rdP l p).1.length c', .int .i64 (rdP l p).2.1, .int .i64 (rdP l p).2.2]) ∧
      Rv w' A' c' (rdP l p).1 ∧ Below w.heap.size w w' := by
  subst hn
  have hlen := hr.len
  have S00 : Hid (∀ w', Below w.heap.size w w' → Rd w' A c l ∧ GW w') := Lib.hid fun w' hb => ⟨hr.keep hb, fG.keep w w' hw hb⟩
  have HBY := Lib.hid hr.byt
  have HG := Lib.hid (get_any A c l p 1 w hr)
  have HGb : Hid (getE l p 1 = 0 → 0 ≤ getV l p 1) := fun h => by rw [getV, if_pos h]; exact num_nonneg (byt_cut hr.byt _ _)
  have HE : Hid (getE l p 1 ≠ 0 → rdP l p = ([], 0, getE l p 1)) := fun h => by rw [rdP, if_neg h]
  have HL : Hid (getE l p 1 = 0 → 32 < getV l p 1 → rdP l p = ([], 0, 60)) := fun h h2 => by rw [rdP, if_pos h, if_pos h2]
  have HS : Hid (getE l p 1 = 0 → ¬ 32 < getV l p 1 → rdP l p = rpS l (getV l p 1).toNat (getN l p 1)) := fun h h2 => by rw [rdP, if_pos h, if_neg h2]
  generalize rdP l p = R at *
  generalize getE l p 1 = e0 at *
  generalize getV l p 1 = many at *
  generalize getN l p 1 = q0 at *
  clear hr hw
  go_enter Tryd.func17, Tryd.ntmps17
  go_wp2_with fail
  refine HG.out.mono ?_
  rintro e w1 ⟨rfl, hb1⟩
  have HB1 := Lib.hid hb1
  clear HG hb1
  by_cases he : e0 = 0
  · subst he
    by_cases hm : 32 < many
    · have HN := Lib.hid (HL.out rfl hm)
      clear HE HL HS HGb
      go_wp2_with fail
      go_ret3
      obtain rfl := HN.out
      exact ⟨none, 0, rfl, Rv.none_ _, HB1.out⟩
    · have hm0 := HGb.out rfl
      obtain ⟨M, rfl⟩ : ∃ M : Nat, many = M := ⟨many.toNat, by omega⟩
      have HI : Hid (R = apV [] (rpS l (M - 0) q0)) := by rw [Hid, rpS_form]; exact HS.out rfl (by omega)
      have hsz1 := HB1.out.size
      clear HE HL HS HGb
      have hinfo := Tryd.infoV
      rw [Option.map_eq_some_iff] at hinfo
      obtain ⟨i0, hi, hz⟩ := hinfo
      simp only [Prod.mk.injEq] at hz
      obtain ⟨hz0, hz1, hz2⟩ := hz
      go_wp2_with (at_make; refine wpList_make_full _ rfl _ _ 22 rfl w.heap.size 24 i0 _ 3 Tryd.underlying22 hi hz0 hz1 .i64 .i64 M M M rfl rfl rfl rfl (by rw [hz2]; omega) (by unfold maxLen; omega) hsz1 ?_)
      intro w2 ho2 hg2
      obtain ⟨xs0, hx0⟩ : ∃ xs0, (madeCells #[.int .u8 0, .int .i64 0, .int .i64 0] (M * 3)).toList = xs0 := ⟨_, rfl⟩
      rw [hx0] at ho2
      have HO2 := Lib.hid ho2
      have HB2 := Lib.hid (below_on HB1.out ⟨hg2.os, hg2.tape, hg2.output, hg2.size, fun i hi => hg2.block i hi (by simp)⟩)
      clear ho2 hg2 hx0 hi hz0 hz1 hz2 i0
      generalize hg : w1.heap.size = g at *
      have hwg : w.heap.size ≤ g := by omega
      clear hg hsz1
      go_wp2_with fail
      go_loopw [4, 5, 25] (fun r o i wr => ∃ (j : Nat) (q : Int) (K : List Vlu) (xs : List Value), j ≤ M ∧ i = .int .i64 j ∧ o = .int .i64 q ∧ r = .slice (some ⟨g, 0, none⟩) M M ∧ Hid (R = apV K (rpS l (M - j) q) ∧ K.length = j ∧ (∀ x ∈ K, VlOk x)) ∧ Hid (wr.ownsRow w.heap.size 24 3 (.slice (some ⟨g, 0, none⟩) M M) M xs ∧ xs.take (j * 3) = cev K) ∧ Hid (Below w.heap.size w wr)) (fun _ _ i _ => M - (intOf i).toNat)
      case atStart => exact ⟨0, q0, [], xs0, by omega, rfl, rfl, rfl, Lib.hid ⟨HI.out, rfl, fun x hx => (by cases hx)⟩, Lib.hid ⟨HO2.out, by simp [cev]⟩, HB2⟩
      case round =>
        obtain ⟨j, q, K, xs, hj, rfl, rfl, rfl, HX, HO, HB⟩ := hrel
        clear HI HO2 HB2
        by_cases h1 : j < M
        · obtain ⟨x, a, b, n2, e2, hrd⟩ : ∃ x a b n2 e2, rdT l q = (x, a, b, n2, e2) := ⟨_, _, _, _, _, rfl⟩
          have HRD := Lib.hid hrd
          have hok := rdT_vok HBY.out hrd
          have HOK := Lib.hid hok
          have HK := fun w hr hw => Lib.hid (vread_v A c l q x a b n2 e2 w hr hw hrd)
          clear hrd hok
          go_wp2_with fail
          refine (HK _ (S00.out _ HB.out).1 (S00.out _ HB.out).2).out.mono ?_
          rintro e w3 ⟨rfl, hb3⟩
          have HB3 := Lib.hid (below_on HB.out hb3)
          have HO3 := Lib.hid (own_below HO.out.1 hb3 (Nat.le_refl _))
          clear HK hb3 HB
          have hxl : xs.length = M * 3 := by simpa using HO3.out.1
          have c0 := HO3.out.cellAt (j * 3) (by omega)
          have c1 := HO3.out.cellAt (j * 3 + 1) (by omega)
          have c2 := HO3.out.cellAt (j * 3 + 2) (by omega)
          have f0 := HO3.out.frozenAt (j * 3)
          have f1 := HO3.out.frozenAt (j * 3 + 1)
          have f2 := HO3.out.frozenAt (j * 3 + 2)
          rw [List.getElem?_eq_getElem (by omega)] at c0 c1 c2
          have HO8 := Lib.hid (((((HO3.out.stored (j * 3) (.int .u8 x)).1).stored (j * 3 + 1) (.int .i64 a)).1).stored (j * 3 + 2) (.int .i64 b)).1
          have HP := Lib.hid (cev_put HX.out.2.1 HO.out.2 (by omega) (x, a, b))
          have HB8 := Lib.hid (((HB3.out.setCell (p := ⟨g, j * 3, none⟩) hwg (.int .u8 x)).setCell (p := ⟨g, j * 3 + 1, none⟩) hwg (.int .i64 a)).setCell (p := ⟨g, j * 3 + 2, none⟩) hwg (.int .i64 b))
          by_cases he2 : e2 = 0
          · subst he2
            have HX8 : Hid (R = apV (K ++ [(x, a, b)]) (rpS l (M - (j + 1)) n2) ∧ (K ++ [(x, a, b)]).length = j + 1 ∧ ∀ y ∈ K ++ [(x, a, b)], VlOk y) := by
              refine ⟨by rw [HX.out.1, show M - j = (M - (j + 1)) + 1 by omega, rpS_yes HRD.out, apV_apV], by rw [List.length_append, HX.out.2.1]; rfl, fun y hy => ?_⟩
              rcases List.mem_append.1 hy with hy | hy
              · exact HX.out.2.2 y hy
              · rw [List.mem_singleton.1 hy]; exact HOK.out
            clear HX HO HO3 HB3 HRD
            go_wp2_with fail
            go_roundw
            case rel => exact ⟨j + 1, n2, K ++ [(x, a, b)], _, by omega, by go_num, rfl, rfl, HX8, Lib.hid ⟨HO8.out, HP.out⟩, HB8⟩
            case measure => simp [intOf]; omega
          · have HN : Hid (R = ([], 0, e2)) := by
              rw [Hid, HX.out.1, show M - j = (M - (j + 1)) + 1 by omega, rpS_no HRD.out he2, apV_no _ he2]
            clear HX HRD HO HO3 HB3
            go_wp2_with fail
            go_ret3
            obtain rfl := HN.out
            exact ⟨none, 0, rfl, Rv.none_ _, HB8.out⟩
        · obtain rfl : j = M := by omega
          have hxl : xs.length = j * 3 := by simpa using HO.out.1.1
          have hxs : xs = cev K := by rw [← HO.out.2, List.take_of_length_le (by omega)]
          have HRv := Lib.hid (Rv.of_own (L := K) (by have := HO.out.1; rwa [hxs] at this) HX.out.2.2).1
          have HN : Hid (R = (K, q, 0)) := by
            rw [Hid, HX.out.1, Nat.sub_self, rpS, apV, if_pos rfl, List.append_nil]
          have HL := Lib.hid HX.out.2.1
          clear HX HO hxl hxs
          go_wp2_with fail
          go_ret3
          obtain rfl := HN.out
          exact ⟨some ⟨g, 0, none⟩, j, by simp [HL.out], HRv.out, HB.out⟩
  · have HN := Lib.hid (HE.out he)
    clear HE HL HS HGb
    go_wp2_with fail
    go_ret3
    obtain rfl := HN.out
    exact ⟨none, 0, rfl, Rv.none_ _, HB1.out⟩
theorem kpread : KPRead fG := fun A c n l p w hw hr hn => pread_any A c n l p w hw hr hn
end Go.Proofs.YtohbndjfnakelaaDoor
