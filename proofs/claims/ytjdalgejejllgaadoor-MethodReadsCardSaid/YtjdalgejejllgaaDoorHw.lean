/-
  What the reference's row answers: kinds behind their count.
-/
import Derived.Test.YtjdalgejejllgaaDoorHk
import Derived.Test.YtjdalgejejllgaaDoorHr
namespace Go.Proofs.YtjdalgejejllgaaDoor
open Go.RowKit
set_option maxRecDepth 100000
set_option linter.unusedSimpArgs false
set_option linter.unusedVariables false

def rw7 (r : List Int × Int × Int) : List Int × Int × Int := if r.2.2 = 0 then r else ([], 0, r.2.2)
def apK (K : List Int) (r : List Int × Int × Int) : List Int × Int × Int := (K ++ r.1, r.2)
theorem rw7_no {r : List Int × Int × Int} {e : Int} (h : r.2.2 = e) (he : e ≠ 0) : rw7 r = ([], 0, e) := by rw [rw7, h, if_neg he]
theorem rK_short {l : List Int} (hb : Byt l) {hi : Int} {q : Nat} (h : q = l.length) : (rK l hi (q, 0)).2.2 = 10 := by
  rw [rK, rN_no (by rw [nE_end hb h]; decide), nE_end hb h, rKs_err (by decide)]
theorem rK_bad {l : List Int} (hb : Byt l) {hi : Int} {q : Nat} (h : q < l.length) (hm : hi < l[q]) : (rK l hi (q, 0)).2.2 = 70 := by
  have e : nE l q 1 0 hi = 70 := by rw [nE_byte hb h, if_neg (by omega)]
  rw [rK, rN_no (by rw [e]; decide), e, rKs_err (by decide)]
theorem rK_go {l : List Int} (hb : Byt l) {hi : Int} {q : Nat} (h : q < l.length) {M : Nat} (hM : l[q] = M) (hm : ¬ hi < l[q]) : rK l hi (q, 0) = apK [] (rKs l (M - 0) (((q + (0 + 1) : Nat) : Int), 0)) := by
  have e : nE l q 1 0 hi = 0 := by rw [nE_byte hb h, if_pos (by omega)]
  obtain ⟨h1, h2, h3⟩ := getB_byte hb h
  rw [rK, rN_yes e, h2, h3, hM]
  simp [apK]
theorem apK_yes {l : List Int} (hb : Byt l) {q : Nat} (h : q < l.length) (hx : 1 ≤ l[q] ∧ l[q] ≤ 3) (K : List Int) (k : Nat) : apK K (rKs l (k + 1) ((q : Int), 0)) = apK (K ++ [l[q]]) (rKs l k (((q + 1 : Nat) : Int), 0)) := by
  have e : nE l q 1 1 3 = 0 := by rw [nE_byte hb h, if_pos hx]
  obtain ⟨h1, h2, h3⟩ := getB_byte hb h
  rw [rKs, rN_yes e, h2, h3]
  simp [apK]
theorem apK_bad {l : List Int} (hb : Byt l) {q : Nat} (h : q < l.length) (hx : ¬ (1 ≤ l[q] ∧ l[q] ≤ 3)) (K : List Int) (k : Nat) : (apK K (rKs l (k + 1) ((q : Int), 0))).2.2 = 70 := by
  have e : nE l q 1 1 3 = 70 := by rw [nE_byte hb h, if_neg hx]
  rw [apK, rKs, rN_no (by rw [e]; decide), e, rKs_err (by decide)]
theorem apK_short {l : List Int} (hb : Byt l) {q : Nat} (h : q = l.length) (K : List Int) (k : Nat) : (apK K (rKs l (k + 1) ((q : Int), 0))).2.2 = 10 := by
  rw [apK, rKs, rN_no (by rw [nE_end hb h]; decide), nE_end hb h, rKs_err (by decide)]
theorem kO_snoc {K : List Int} (h : kO K = true) (x : Int) : kO (K ++ [x]) = (decide (1 ≤ x) && decide (x ≤ 3)) := by
  unfold kO at *
  rw [List.all_append, h]
  simp
set_option maxHeartbeats 2000000 in
theorem r7row_v (A : Option Addr) (c n : Nat) (l : List Int) (q : Nat) (hi : Int) (R : List Int × Int × Int) (w : World) (hr : Rd w A c l) (hn : l.length = n) (hl : l.length ≤ 2000) (hq : q ≤ l.length) (hi0 : hi ≤ 100) (hR : rw7 (rK l hi (q, 0)) = R) :
    Calls Tryd.prog 46 #[.slice A n c, .int .i64 q, .int .i64 hi] w fun e w' => ∃ A' c', e = .returned (.tuple #[.slice A' R.1.length c', .int .i64 R.2.1, .int .i64 R.2.2]) ∧ w'.ownsRow w.heap.size 5 1 (.slice A' R.1.length c') R.1.length (cel R.1) ∧ Byt R.1 ∧ Below w.heap.size w w' := by
  subst hn
  have HR := Lib.hid hr
  have HRR := Lib.hid hR
  have HBY := Lib.hid hr.byt
  obtain ⟨i0, hi', hz0, hz1, hz2⟩ := info_parts Tryd.info5
  clear hr hR
  by_cases h1 : q < l.length
  · obtain ⟨ad, rfl, hc⟩ := HR.out.at_ h1
    have hbd := HBY.out _ (List.getElem_mem h1)
    rw [List.getElem?_eq_getElem h1] at hc
    simp only [Option.getD_some] at hc
    by_cases hm : hi < l[q]
    · have HN := Lib.hid (rw7_no (rK_bad HBY.out h1 hm) (by decide))
      generalize l[q] = x at *
      go_enter Tryd.func46, Tryd.ntmps46
      go_wp2_with fail
      go_ret3
      rw [← HRR.out, HN.out]
      exact ⟨none, 0, rfl, World.ownsRow_nil _ _ _ _, fun x hx => (by cases hx), Below.refl _ _⟩
    · obtain ⟨M, hM⟩ : ∃ M : Nat, l[q] = M := ⟨l[q].toNat, by omega⟩
      have HI : Hid (rK l hi (q, 0) = apK [] (rKs l (M - 0) (((q + (0 + 1) : Nat) : Int), 0))) := Lib.hid (rK_go HBY.out h1 hM hm)
      rw [hM] at hc hm hbd
      clear hM
      generalize rK l hi (q, 0) = X at *
      go_enter Tryd.func46, Tryd.ntmps46
      go_wp2_with fail
      go_loopw [10, 11] (fun o i wr => ∃ (j : Nat) (K : List Int) (A' : Option Addr) (c' : Nat), j ≤ M ∧ q + (j + 1) ≤ l.length ∧ i = .int .i64 ((j + 1 : Nat) : Int) ∧ o = .slice A' j c' ∧ Hid (X = apK K (rKs l (M - j) (((q + (j + 1) : Nat) : Int), 0)) ∧ K.length = j ∧ kO K = true ∧ Byt K) ∧ Hid (wr.ownsRow w.heap.size 5 1 (.slice A' j c') j (cel K)) ∧ Hid (Below w.heap.size w wr)) (fun o _ _ => match o with | .slice _ j _ => M - j | _ => 0)
      case atStart => exact ⟨0, [], none, 0, by omega, by omega, rfl, rfl, Lib.hid ⟨HI.out, rfl, rfl, fun x hx => (by cases hx)⟩, Lib.hid (World.ownsRow_nil _ _ _ _), Lib.hid (Below.refl _ _)⟩
      case round =>
        obtain ⟨j, K, A', c', hj, hjl, rfl, rfl, HX, HO, HB⟩ := hrel
        clear HI
        by_cases h2 : j < M
        · by_cases h3 : q + (j + 1) < l.length
          · obtain ⟨ad', e', hc'⟩ := (HR.out.keep HB.out).at_ h3
            obtain rfl : ad = ad' := by simpa using e'
            rw [List.getElem?_eq_getElem h3] at hc'
            simp only [Option.getD_some] at hc'
            have hbd' := HBY.out _ (List.getElem_mem h3)
            have HK := Lib.hid (kO_snoc HX.out.2.2.1 l[q + (j + 1)])
            have HY : Hid ((1 ≤ l[q + (j + 1)] ∧ l[q + (j + 1)] ≤ 3) → X = apK (K ++ [l[q + (j + 1)]]) (rKs l (M - (j + 1)) (((q + (j + 1 + 1) : Nat) : Int), 0))) := fun hx => by
              rw [HX.out.1, show M - j = (M - (j + 1)) + 1 by omega, apK_yes HBY.out h3 hx]
              rfl
            have HZ : Hid (¬ (1 ≤ l[q + (j + 1)] ∧ l[q + (j + 1)] ≤ 3) → X.2.2 = 70) := fun hx => by
              rw [HX.out.1, show M - j = (M - (j + 1)) + 1 by omega, apK_bad HBY.out h3 hx]
            generalize l[q + (j + 1)] = x at *
            clear e'
            have HR1 := Lib.hid (rd_one wr x hbd')
            have HO1 := Lib.hid (own_below HO.out (new1 (a := .cells #[.int .u8 x] 5)) (Nat.le_refl _))
            have HB1 := Lib.hid (HB.out.alloc HB.out.size (.cells #[.int .u8 x] 5))
            have HL := Lib.hid HX.out.2.1
            have HBK : Hid (Byt (K ++ [x])) := fun y hy => by
              rcases List.mem_append.1 hy with hy | hy
              · exact HX.out.2.2.2 y hy
              · rw [List.mem_singleton.1 hy]; exact hbd'
            clear HX HO HB
            go_wp2_with (at_builtin; refine wpList_append_rd _ rfl _ _ 22 rfl w.heap.size 5 i0 Tryd.underlying22 hi' hz0 hz1 hz2 _ j K rfl HO1.out _ 1 1 [x] rfl HR1.out rfl (by omega) (by simpa using HB1.out.size) ?_)
            intro A7 c7 w7 ho7 hg7 hb7 _
            have HO7 := Lib.hid ho7
            have HB7 := Lib.hid (HB1.out.trans hb7)
            have HL7 : Hid ((K ++ [x]).length = j + 1) := by rw [Hid, List.length_append, HL.out]; rfl
            clear ho7 hg7 hb7 HO1 HR1 HB1
            go_wp2_with fail
            refine (r7kinds_v A7 c7 (j + 1) (K ++ [x]) _ _ (own_rd HO7.out HBK.out) HL7.out HK.out).mono ?_
            rintro e w8 ⟨rfl, rfl⟩
            by_cases hx : 1 ≤ x ∧ x ≤ 3
            · have HN := Lib.hid (HY.out hx)
              have HK1 : Hid (kO (K ++ [x]) = true) := by rw [Hid, HK.out]; simpa using hx
              rw [show (decide (1 ≤ x) && decide (x ≤ 3)) = true by simpa using hx]
              clear hx HY HZ HK
              go_wp2_with fail
              go_roundw
              case rel => exact ⟨j + 1, K ++ [x], A7, c7, by omega, by omega, by go_num, rfl, Lib.hid ⟨HN.out, HL7.out, HK1.out, HBK.out⟩, HO7, HB7⟩
              case measure => simp; omega
            · have HN := Lib.hid (rw7_no (HZ.out hx) (by decide))
              rw [show (decide (1 ≤ x) && decide (x ≤ 3)) = false by simp; omega]
              clear hx HY HZ HK
              go_wp2_with fail
              go_ret3
              rw [← HRR.out, HN.out]
              exact ⟨none, 0, rfl, World.ownsRow_nil _ _ _ _, fun x hx => (by cases hx), HB7.out⟩
          · have HN : Hid (rw7 X = ([], 0, 10)) := by
              refine rw7_no ?_ (by decide)
              rw [HX.out.1, show M - j = (M - (j + 1)) + 1 by omega, apK_short HBY.out (by omega)]
            clear HX HO
            go_wp2_with fail
            go_ret3
            rw [← HRR.out, HN.out]
            exact ⟨none, 0, rfl, World.ownsRow_nil _ _ _ _, fun x hx => (by cases hx), HB.out⟩
        · obtain rfl : j = M := by omega
          have HN : Hid (rw7 X = (K, ((q + (j + 1) : Nat) : Int), 0)) := by
            rw [Hid, HX.out.1, Nat.sub_self, rKs, apK, rw7, if_pos rfl, List.append_nil]
          have HL := Lib.hid HX.out.2.1
          have HBK := Lib.hid HX.out.2.2.2
          clear HX
          have hadd : wrap64 (wrap64 ((q : Int) + 1) + (j : Int)) = ((q + (j + 1) : Nat) : Int) := by unfold wrap64; omega
          go_wp2_with fail
          go_ret3
          rw [← HRR.out, HN.out]
          exact ⟨A', c', by simp [HL.out]; omega, by rw [HL.out]; exact HO.out, HBK.out, HB.out⟩
  · have HN := Lib.hid (rw7_no (rK_short (hi := hi) HBY.out (show q = l.length by omega)) (by decide))
    go_enter Tryd.func46, Tryd.ntmps46
    go_wp2_with fail
    go_ret3
    rw [← HRR.out, HN.out]
    exact ⟨none, 0, rfl, World.ownsRow_nil _ _ _ _, fun x hx => (by cases hx), Below.refl _ _⟩
end Go.Proofs.YtjdalgejejllgaaDoor
