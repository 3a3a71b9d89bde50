/-
  Reading a pool, by definition; what the reference's Read answers.
-/
import Derived.Test.YtohbndjfnakelaaDoorPb
import Derived.Test.YtohbndjfnakelaaDoorLe
namespace Go.Proofs.YtohbndjfnakelaaDoor
open Go.RowKit
set_option maxRecDepth 100000
set_option linter.unusedSimpArgs false
set_option linter.unusedVariables false

/-- Values ahead of what was read behind them; k values at q; a pool at p: the values, the place behind them, the error. -/
def apV (K : List Vlu) (r : List Vlu × Int × Int) : List Vlu × Int × Int := if r.2.2 = 0 then (K ++ r.1, r.2.1, 0) else ([], 0, r.2.2)
def rpS (l : List Int) : Nat → Int → List Vlu × Int × Int
  | 0, q => ([], q, 0)
  | k + 1, q => match rdT l q with
    | (x, a, b, n, e) => if e = 0 then apV [(x, a, b)] (rpS l k n) else ([], 0, e)
def rdP (l : List Int) (p : Int) : List Vlu × Int × Int :=
  if getE l p 1 = 0 then (if 32 < getV l p 1 then ([], 0, 60) else rpS l (getV l p 1).toNat (getN l p 1)) else ([], 0, getE l p 1)
theorem apV_apV (K M : List Vlu) (r : List Vlu × Int × Int) : apV K (apV M r) = apV (K ++ M) r := by
  unfold apV
  by_cases h : r.2.2 = 0
  · simp [h]
  · simp [h]
theorem rpS_form (l : List Int) (k : Nat) (q : Int) : apV [] (rpS l k q) = rpS l k q := by
  cases k with
  | zero => rfl
  | succ k =>
    rw [rpS]
    obtain ⟨x, a, b, n, e⟩ := rdT l q
    simp only
    by_cases h : e = 0
    · rw [if_pos h, apV_apV, List.nil_append]
    · rw [if_neg h]; simp [apV, h]
theorem rpS_yes {l : List Int} {k : Nat} {q x a b n : Int} (h : rdT l q = (x, a, b, n, 0)) : rpS l (k + 1) q = apV [(x, a, b)] (rpS l k n) := by rw [rpS, h]; simp
theorem rpS_no {l : List Int} {k : Nat} {q x a b n e : Int} (h : rdT l q = (x, a, b, n, e)) (he : e ≠ 0) : rpS l (k + 1) q = ([], 0, e) := by rw [rpS, h]; simp [he]
theorem apV_no (K : List Vlu) {e : Int} (he : e ≠ 0) : apV K ([], 0, e) = ([], 0, e) := by simp [apV, he]
theorem wrap64_bd (n : Int) : -9223372036854775808 ≤ wrap64 n ∧ wrap64 n ≤ 9223372036854775807 := by
  unfold wrap64; omega
theorem rdT_vok {l : List Int} (hb : Byt l) {q x a b n e : Int} (h : rdT l q = (x, a, b, n, e)) : VlOk (x, a, b) := by
  have z : VlOk (0, 0, 0) := by unfold VlOk; simp only; omega
  have b1 := x3_bd hb (q.toNat + 1)
  have b2 := x3_bd hb (q.toNat + 4)
  have b4 := wrap64_bd (num ((l.drop (q.toNat + 1)).take 8))
  unfold rdT at h
  repeat' split at h
  all_goals (obtain ⟨rfl, rfl, rfl, rfl, rfl⟩ := by simpa using h)
  all_goals (unfold VlOk; simp only; omega)
set_option maxHeartbeats 2000000 in
theorem r6read_v (A : Option Addr) (c n : Nat) (l : List Int) (p : Int) (w : World) (hr : Rd w A c l) (hn : l.length = n) (hl : l.length ≤ 2000) :
    Calls Tryd.prog 18 #[.slice A n c, .int .i64 p] w fun e w' => ∃ A' c', e = .returned (.tuple #[.slice A' (rdP l p).1.length c', .int .i64 (rdP l p).2.1, .int .i64 (rdP l p).2.2]) ∧
      Rv w' A' c' (rdP l p).1 ∧ Below w.heap.size w w' := by
  subst hn
  have hlen := hr.len
  have HW := Lib.hid hr
  have HG := Lib.hid (rget_any A c l p 1 w hr hl)
  have HGb : Hid (getE l p 1 = 0 → 0 ≤ getV l p 1) := fun h => by rw [getV, if_pos h]; exact num_nonneg (byt_cut hr.byt _ _)
  have HE : Hid (getE l p 1 ≠ 0 → rdP l p = ([], 0, getE l p 1)) := fun h => by rw [rdP, if_neg h]
  have HL : Hid (getE l p 1 = 0 → 32 < getV l p 1 → rdP l p = ([], 0, 60)) := fun h h2 => by rw [rdP, if_pos h, if_pos h2]
  have HS : Hid (getE l p 1 = 0 → ¬ 32 < getV l p 1 → rdP l p = rpS l (getV l p 1).toNat (getN l p 1)) := fun h h2 => by rw [rdP, if_pos h, if_neg h2]
  generalize rdP l p = R at *
  generalize getE l p 1 = e0 at *
  generalize getV l p 1 = many at *
  generalize getN l p 1 = q0 at *
  clear hr
  go_enter Tryd.func18, Tryd.ntmps18
  go_wp2_with fail
  refine HG.out.mono ?_
  rintro e w1 ⟨rfl, rfl⟩
  clear HG
  by_cases he : e0 = 0
  · subst he
    by_cases hm : 32 < many
    · have HN := Lib.hid (HL.out rfl hm)
      clear HE HL HS HGb
      go_wp2_with fail
      go_ret3
      obtain rfl := HN.out
      exact ⟨none, 0, rfl, Rv.none_ _, Below.refl _ _⟩
    · have hm0 := HGb.out rfl
      obtain ⟨M, rfl⟩ : ∃ M : Nat, many = M := ⟨many.toNat, by omega⟩
      have HI : Hid (R = apV [] (rpS l (M - 0) q0)) := by rw [Hid, rpS_form]; exact HS.out rfl (by omega)
      clear HE HL HS HGb
      go_wp2_with fail
      go_loopw [8, 10, 11, 12, 13] (fun i o _ _ _ wr => ∃ (j : Nat) (q : Int) (K : List Vlu) (A' : Option Addr) (c' : Nat), j ≤ M ∧ i = .int .i64 q ∧ o = .slice A' j c' ∧ Hid (R = apV K (rpS l (M - j) q) ∧ K.length = j ∧ (∀ x ∈ K, VlOk x)) ∧ Hid (wr.ownsRow w.heap.size 24 3 (.slice A' j c') j (cev K)) ∧ Hid (Below w.heap.size w wr)) (fun _ o _ _ _ _ => match o with | .slice _ j _ => M - j | _ => 0)
      case atStart => exact ⟨0, q0, [], none, 0, by omega, rfl, rfl, Lib.hid ⟨HI.out, rfl, fun x hx => (by cases hx)⟩, Lib.hid (World.ownsRow_nil _ _ _ _), Lib.hid (Below.refl _ _)⟩
      case round =>
        obtain ⟨j, q, K, A', c', hj, rfl, rfl, HX, HO, HB⟩ := hrel
        clear HI
        by_cases h1 : j < M
        · obtain ⟨x, a, b, n2, e2, hrd⟩ : ∃ x a b n2 e2, rdT l q = (x, a, b, n2, e2) := ⟨_, _, _, _, _, rfl⟩
          have HRD := Lib.hid hrd
          have hok := rdT_vok HW.out.byt hrd
          have HK := fun w hr => Lib.hid (r3read_v A c l q x a b n2 e2 w hr hl hrd)
          clear hrd
          go_wp2_with fail
          refine (HK _ (HW.out.keep HB.out)).out.mono ?_
          rintro e w3 ⟨rfl, hb3⟩
          have HB3 := Lib.hid (below_on HB.out hb3)
          have HO3 := Lib.hid (own_below HO.out hb3 (Nat.le_refl _))
          clear HK hb3 HB HO
          by_cases he2 : e2 = 0
          · subst he2
            have HOK : Hid (∀ u ∈ K ++ [(x, a, b)], VlOk u) := by
              intro u hu
              rcases List.mem_append.1 hu with hu | hu
              · exact HX.out.2.2 u hu
              · rw [List.mem_singleton.1 hu]; exact hok
            have HN : Hid (R = apV (K ++ [(x, a, b)]) (rpS l (M - (j + 1)) n2)) := by
              rw [Hid, HX.out.1, show M - j = (M - (j + 1)) + 1 by omega, rpS_yes HRD.out, apV_apV]
            have HLL : Hid ((K ++ [(x, a, b)]).length = j + 1) := by rw [Hid, List.length_append, HX.out.2.1]; rfl
            have HR5 := Lib.hid (rv_new (w3.alloc (.cells #[.int .u8 x, .int .i64 a, .int .i64 b] 24)) (x, a, b) hok)
            have HO5 := Lib.hid (own_below (own_below HO3.out (new1 (a := .cells #[.int .u8 x, .int .i64 a, .int .i64 b] 24)) (Nat.le_refl _)) (new1 (a := .cells #[.int .u8 x, .int .i64 a, .int .i64 b] 24)) (Nat.le_refl _))
            have HB5 := Lib.hid ((HB3.out.alloc HB3.out.size (.cells #[.int .u8 x, .int .i64 a, .int .i64 b] 24)).alloc (by rw [size1]; have := HB3.out.size; omega) (.cells #[.int .u8 x, .int .i64 a, .int .i64 b] 24))
            rw [size1] at HR5
            go_wp2_with (at_builtin; refine wpList_append_rv _ rfl _ _ rfl w.heap.size _ j K rfl HO5.out _ 1 1 [(x, a, b)] rfl HR5.out rfl (by omega) HB5.out.size ?_)
            intro A7 c7 w7 ho7 hb7
            have HO7 := Lib.hid ho7
            have HB7 := Lib.hid (HB5.out.trans hb7)
            clear ho7 hb7
            go_wp2_with fail
            go_roundw
            case rel => exact ⟨j + 1, n2, _, A7, c7, by omega, rfl, rfl, Lib.hid ⟨HN.out, HLL.out, HOK.out⟩, HO7, HB7⟩
            case measure => simp; omega
          · have HN : Hid (R = ([], 0, e2)) := by
              rw [Hid, HX.out.1, show M - j = (M - (j + 1)) + 1 by omega, rpS_no HRD.out he2, apV_no _ he2]
            clear HX HRD
            go_wp2_with fail
            go_ret3
            obtain rfl := HN.out
            exact ⟨none, 0, rfl, Rv.none_ _, HB3.out.alloc HB3.out.size _⟩
        · obtain rfl : j = M := by omega
          have HN : Hid (R = (K, q, 0)) := by
            rw [Hid, HX.out.1, Nat.sub_self, rpS, apV, if_pos rfl, List.append_nil]
          have HL := Lib.hid HX.out.2.1
          have HRv := Lib.hid (Rv.of_own HO.out HX.out.2.2).1
          clear HX HO
          go_wp2_with fail
          go_ret3
          obtain rfl := HN.out
          exact ⟨A', c', by simp [HL.out], HRv.out, HB.out⟩
  · have HN := Lib.hid (HE.out he)
    clear HE HL HS HGb
    go_wp2_with fail
    go_ret3
    obtain rfl := HN.out
    exact ⟨none, 0, rfl, Rv.none_ _, Below.refl _ _⟩
end Go.Proofs.YtohbndjfnakelaaDoor
