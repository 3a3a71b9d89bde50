/-
  The reference's Read of pools: what it answers lies in memory of the call's own.
-/
import Derived.Test.YteimpkjpoijhmaaDoorLi
namespace Go.Proofs.YteimpkjpoijhmaaDoor
open Go.RowKit
set_option maxRecDepth 100000
set_option linter.unusedSimpArgs false
set_option linter.unusedVariables false

set_option maxHeartbeats 2000000 in
theorem r6readw_v (A : Option Addr) (c n : Nat) (l : List Int) (p : Int) (w : World) (hr : Rd w A c l) (hn : l.length = n) (hl : l.length ≤ 2000) :
    Calls Tryd.prog 43 #[.slice A n c, .int .i64 p] w fun e w' => ∃ A' c', e = .returned (.tuple #[.slice A' (rdP l p).1.length c', .int .i64 (rdP l p).2.1, .int .i64 (rdP l p).2.2]) ∧
      Rv w' A' c' (rdP l p).1 ∧ w'.ownsRow w.heap.size 67 3 (.slice A' (rdP l p).1.length c') (rdP l p).1.length (cev (rdP l p).1) ∧ Below w.heap.size w w' := by
  subst hn
  have hlen := hr.len
  have HW := Lib.hid hr
  have HG := Lib.hid (rget_any A c l p 1 w hr hl)
  have HGb : Hid (getE l p 1 = 0 → 0 ≤ getV l p 1) := fun h => by rw [getV, if_pos h]; exact num_nonneg (byt_cut hr.byt _ _)
  have HE : Hid (getE l p 1 ≠ 0 → rdP l p = ([], 0, getE l p 1)) := fun h => by rw [rdP, if_neg h]
  have HL : Hid (getE l p 1 = 0 → 32 < getV l p 1 → rdP l p = ([], 0, 60)) := fun h h2 => by rw [rdP, if_pos h, if_pos h2]
  have HS : Hid (getE l p 1 = 0 → ¬ 32 < getV l p 1 → rdP l p = rpS l (getV l p 1).toNat (getN l p 1)) := fun h h2 => by rw [rdP, if_pos h, if_neg h2]
  generalize rdP l p = R at *
  generalize getE l p 1 = e0 at *
  generalize getV l p 1 = many at *
  generalize getN l p 1 = q0 at *
  clear hr
  go_enter Tryd.func43, Tryd.ntmps43
  go_wp2_with fail
  refine HG.out.mono ?_
  rintro e w1 ⟨rfl, rfl⟩
  clear HG
  by_cases he : e0 = 0
  · subst he
    by_cases hm : 32 < many
    · have HN := Lib.hid (HL.out rfl hm)
      clear HE HL HS HGb
      go_wp2_with fail
      go_ret3
      obtain rfl := HN.out
      exact ⟨none, 0, rfl, Rv.none_ _, World.ownsRow_nil _ _ _ _, Below.refl _ _⟩
    · have hm0 := HGb.out rfl
      obtain ⟨M, rfl⟩ : ∃ M : Nat, many = M := ⟨many.toNat, by omega⟩
      have HI : Hid (R = apV [] (rpS l (M - 0) q0)) := by rw [Hid, rpS_form]; exact HS.out rfl (by omega)
      clear HE HL HS HGb
      go_wp2_with fail
      go_loopw [8, 10, 11, 12, 13] (fun i o _ _ _ wr => ∃ (j : Nat) (q : Int) (K : List Vlu) (A' : Option Addr) (c' : Nat), j ≤ M ∧ i = .int .i64 q ∧ o = .slice A' j c' ∧ Hid (R = apV K (rpS l (M - j) q) ∧ K.length = j ∧ (∀ x ∈ K, VlOk x)) ∧ Hid (wr.ownsRow w.heap.size 67 3 (.slice A' j c') j (cev K)) ∧ Hid (Below w.heap.size w wr)) (fun _ o _ _ _ _ => match o with | .slice _ j _ => M - j | _ => 0)
      case atStart => exact ⟨0, q0, [], none, 0, by omega, rfl, rfl, Lib.hid ⟨HI.out, rfl, fun x hx => (by cases hx)⟩, Lib.hid (World.ownsRow_nil _ _ _ _), Lib.hid (Below.refl _ _)⟩
      case round =>
        obtain ⟨j, q, K, A', c', hj, rfl, rfl, HX, HO, HB⟩ := hrel
        clear HI
        by_cases h1 : j < M
        · obtain ⟨x, a, b, n2, e2, hrd⟩ : ∃ x a b n2 e2, rdT l q = (x, a, b, n2, e2) := ⟨_, _, _, _, _, rfl⟩
          have HRD := Lib.hid hrd
          have hok := rdT_vok HW.out.byt hrd
          have HK := fun w hr => Lib.hid (r3read_v A c l q x a b n2 e2 w hr hl hrd)
          clear hrd
          go_wp2_with fail
          refine (HK _ (HW.out.keep HB.out)).out.mono ?_
          rintro e w3 ⟨rfl, hb3⟩
          have HB3 := Lib.hid (below_on HB.out hb3)
          have HO3 := Lib.hid (own_below HO.out hb3 (Nat.le_refl _))
          clear HK hb3 HB HO
          by_cases he2 : e2 = 0
          · subst he2
            have HOK : Hid (∀ u ∈ K ++ [(x, a, b)], VlOk u) := by
              intro u hu
              rcases List.mem_append.1 hu with hu | hu
              · exact HX.out.2.2 u hu
              · rw [List.mem_singleton.1 hu]; exact hok
            have HN : Hid (R = apV (K ++ [(x, a, b)]) (rpS l (M - (j + 1)) n2)) := by
              rw [Hid, HX.out.1, show M - j = (M - (j + 1)) + 1 by omega, rpS_yes HRD.out, apV_apV]
            have HLL : Hid ((K ++ [(x, a, b)]).length = j + 1) := by rw [Hid, List.length_append, HX.out.2.1]; rfl
            have HR5 := Lib.hid (rv_new (w3.alloc (.cells #[.int .u8 x, .int .i64 a, .int .i64 b] 67)) (x, a, b) hok)
            have HO5 := Lib.hid (own_below (own_below HO3.out (new1 (a := .cells #[.int .u8 x, .int .i64 a, .int .i64 b] 67)) (Nat.le_refl _)) (new1 (a := .cells #[.int .u8 x, .int .i64 a, .int .i64 b] 67)) (Nat.le_refl _))
            have HB5 := Lib.hid ((HB3.out.alloc HB3.out.size (.cells #[.int .u8 x, .int .i64 a, .int .i64 b] 67)).alloc (by rw [size1]; have := HB3.out.size; omega) (.cells #[.int .u8 x, .int .i64 a, .int .i64 b] 67))
            rw [size1] at HR5
            go_wp2_with (at_builtin; refine wpList_append_rv _ rfl _ _ rfl w.heap.size _ j K rfl HO5.out _ 1 1 [(x, a, b)] rfl HR5.out rfl (by omega) HB5.out.size ?_)
            intro A7 c7 w7 ho7 hb7
            have HO7 := Lib.hid ho7
            have HB7 := Lib.hid (HB5.out.trans hb7)
            clear ho7 hb7
            go_wp2_with fail
            go_roundw
            case rel => exact ⟨j + 1, n2, _, A7, c7, by omega, rfl, rfl, Lib.hid ⟨HN.out, HLL.out, HOK.out⟩, HO7, HB7⟩
            case measure => simp; omega
          · have HN : Hid (R = ([], 0, e2)) := by
              rw [Hid, HX.out.1, show M - j = (M - (j + 1)) + 1 by omega, rpS_no HRD.out he2, apV_no _ he2]
            clear HX HRD
            go_wp2_with fail
            go_ret3
            obtain rfl := HN.out
            exact ⟨none, 0, rfl, Rv.none_ _, World.ownsRow_nil _ _ _ _, HB3.out.alloc HB3.out.size _⟩
        · obtain rfl : j = M := by omega
          have HN : Hid (R = (K, q, 0)) := by
            rw [Hid, HX.out.1, Nat.sub_self, rpS, apV, if_pos rfl, List.append_nil]
          have HL := Lib.hid HX.out.2.1
          have HRv := Lib.hid (Rv.of_own HO.out HX.out.2.2).1
          have HOw : Hid (wr.ownsRow w.heap.size 67 3 (.slice A' K.length c') K.length (cev K)) := by rw [Hid, HX.out.2.1]; exact HO.out
          clear HX HO
          go_wp2_with fail
          go_ret3
          obtain rfl := HN.out
          exact ⟨A', c', by simp [HL.out], HRv.out, HOw.out, HB.out⟩
  · have HN := Lib.hid (HE.out he)
    clear HE HL HS HGb
    go_wp2_with fail
    go_ret3
    obtain rfl := HN.out
    exact ⟨none, 0, rfl, Rv.none_ _, World.ownsRow_nil _ _ _ _, Below.refl _ _⟩
end Go.Proofs.YteimpkjpoijhmaaDoor
