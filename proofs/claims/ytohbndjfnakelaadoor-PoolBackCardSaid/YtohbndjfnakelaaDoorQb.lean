/-
  Layer 6, package pool: what Bytes answers, for every argument.
-/
import Derived.Test.YtohbndjfnakelaaDoorQm
namespace Go.Proofs.YtohbndjfnakelaaDoor
open Go.RowKit
set_option maxRecDepth 100000
set_option linter.unusedSimpArgs false
set_option linter.unusedVariables false

theorem put_1 {n : Int} (h0 : 0 ≤ n) (h : n < 256) : putL 1 n = [n] ∧ putE 1 n = 0 := by
  have := put_yes (k := 1) (n := n) (by omega) (by omega) h0 (by simpa [p256] using h)
  rw [show ((1 : Nat) : Int) = 1 from rfl] at this
  refine ⟨?_, this.1⟩
  rw [this.2]
  simp [digs]
  omega
set_option maxHeartbeats 2000000 in
theorem kpbytes : KPBytes fG := by
  intro A c m L w hw hr hm _
  subst hm
  obtain ⟨i0, hi, hz0, hz1, hz2⟩ := info_parts Tryd.info5
  cases hc : poM L with
  | false =>
    have HC := Lib.hid hc
    rw [poL, if_neg (by rw [hc]; decide), poE, if_neg (by rw [hc]; decide)]
    clear hc
    go_enter Tryd.func14, Tryd.ntmps14
    go_wp2_with fail
    refine (pmay_any A c _ L _ hr rfl).mono ?_
    rintro e w1 ⟨rfl, hb1⟩
    rw [HC.out]
    go_wp2_with fail
    go_ret2
    exact ⟨none, 0, rfl, World.ownsRow_nil _ _ _ _, hb1⟩
  | true =>
    have HC := Lib.hid hc
    rw [poL, if_pos hc, poE, if_pos hc]
    have hl2 := poM_le hc
    have HALL := Lib.hid (poM_at hc)
    have HOK := Lib.hid hr.1
    have S0 := Lib.hid (((Sx.start w).add fG hw).add (fW A c L) hr)
    have S00 : Hid (∀ w', Below w.heap.size w w' → Sx w w' [fW A c L, fG]) := Lib.hid fun w' hb => S0.out.call hb
    obtain ⟨hp1, hp2⟩ := put_1 (n := L.length) (by omega) (by omega)
    have P := fun w => Lib.hid (put_any 1 L.length w)
    rw [hp1, hp2] at P
    clear hc hr hw hp1 hp2
    go_enter Tryd.func14, Tryd.ntmps14
    go_wp2_with fail
    refine (pmay_any A c _ L _ S0.out.2.1 rfl).mono ?_
    rintro e w1 ⟨rfl, hb1⟩
    rw [HC.out]
    have S1 := Lib.hid (S0.out.call hb1)
    clear hb1 S0
    go_wp2_with fail
    refine (P _).out.mono ?_
    rintro e w2 ⟨A2, c2, rfl, ho2, hb2⟩
    have S2 := Lib.hid (S1.out.call hb2)
    have HO2 := Lib.hid (own_base ho2 S1.out.1.size)
    clear ho2 hb2 S1 P
    go_wp2_with fail
    go_loopw [4, 21] (fun o i wr => ∃ (j : Nat) (A' : Option Addr) (c' : Nat) (X : List Int) (N : Nat), j ≤ L.length ∧ i = .int .i64 j ∧ o = .slice A' N c' ∧ N ≤ 1 + 9 * j ∧ Hid (X = (L.length : Int) :: (L.take j).flatMap vB ∧ X.length = N ∧ wr.ownsRow w.heap.size 5 1 (.slice A' N c') N (cel X)) ∧ Hid (Sx w wr [fW A c L, fG]))
      (fun _ i _ => L.length - (intOf i).toNat)
    case atStart => exact ⟨0, _, _, [(L.length : Int)], 1, by omega, rfl, rfl, by omega, Lib.hid ⟨by simp, rfl, HO2.out⟩, S2⟩
    case round =>
      obtain ⟨j, A', c', X, N, hj, rfl, rfl, hN, HX, S3⟩ := hrel
      clear HO2 S2
      by_cases h1 : j < L.length
      · obtain ⟨ad, rfl, x0, x1, x2⟩ := S3.out.2.1.at_ h1
        have HV := Lib.hid (HALL.out _ (List.getElem_mem h1))
        have HQ := Lib.hid (HOK.out _ (List.getElem_mem h1))
        have HL : Hid (L.take (j + 1) = L.take j ++ [L[j]]) := by rw [Hid, List.take_add_one, List.getElem?_eq_getElem h1]; rfl
        generalize L[j] = x at *
        have hbl := vB_len x
        have S4 := Lib.hid (S3.out.mk1 (.cells #[.int .u8 x.1, .int .i64 x.2.1, .int .i64 x.2.2] 24))
        have HO4 := Lib.hid (own_below HX.out.2.2 (new1 (a := .cells #[.int .u8 x.1, .int .i64 x.2.1, .int .i64 x.2.2] 24)) (Nat.le_refl _))
        have HX1 := Lib.hid HX.out.1
        have HX2 := Lib.hid HX.out.2.1
        clear HX S3
        go_wp2_with fail
        refine (vbytes_v x.1 x.2.1 x.2.2 0 (vB x) _ _ S4.out.2.2.1 ⟨bytE_of HV.out, bytL_of HV.out, rfl⟩).mono ?_
        rintro e w3 ⟨A3, c3, rfl, ho3, hb3⟩
        have HR1 := Lib.hid (own_rd ho3 (vB_byt x))
        have HO5 := Lib.hid (own_below HO4.out hb3 (Nat.le_refl _))
        have S5 := Lib.hid (S4.out.call hb3)
        clear ho3 hb3 x0 x1 x2 S4 HO4
        go_wp2_with (at_builtin; refine wpList_append_rd _ rfl _ _ 26 rfl w.heap.size 5 i0 Tryd.underlying26 hi hz0 hz1 hz2 _ N X rfl HO5.out _ _ _ (vB x) rfl HR1.out rfl (by omega) S5.out.1.size ?_)
        intro A2 c2 w4 ho4 hg4 hb4 _
        have HO6 := Lib.hid ho4
        have S6 := Lib.hid (show Sx w w4 [fW (some ad) c L, fG] from S00.out w4 (S5.out.1.trans hb4))
        clear ho4 hg4 hb4 HO5 HR1 S5
        go_wp2_with fail
        go_roundw
        case rel => exact ⟨j + 1, A2, c2, _, N + (vB x).length, by omega, by go_num, rfl, by omega, Lib.hid ⟨by rw [HX1.out, HL.out, List.flatMap_append, List.flatMap_cons, List.flatMap_nil, List.append_nil, List.cons_append], by rw [List.length_append, HX2.out], HO6.out⟩, S6⟩
        case measure => simp [intOf]; omega
      · obtain rfl : j = L.length := by omega
        have hx := HX.out
        rw [List.take_length, ← poB] at hx
        obtain ⟨rfl, rfl, ho⟩ := hx
        have HO := Lib.hid ho
        clear ho HX
        go_wp2_with fail
        go_ret2
        exact ⟨A', c', rfl, HO.out, S3.out.1⟩
end Go.Proofs.YtohbndjfnakelaaDoor
