/-
  Layer 5, package code: what put and Bytes answer, for every argument.
-/
import Derived.Test.YthmfjdafmnmgiaaDoorCp
namespace Go.Proofs.YthmfjdafmnmgiaaDoor
open Go.RowKit
set_option maxRecDepth 100000
set_option linter.unusedSimpArgs false
set_option linter.unusedVariables false

theorem grown_of {w w' : World} (hb : Below w.heap.size w w') (row : Option Nat) : w.grownBy w' row := ⟨hb.os, hb.tape, hb.output, hb.size, fun i hi _ => hb.block i hi⟩
theorem In.grown {w w' : World} {B : Nat} {k a b : Int} (h : In w B k a b) {row : Option Nat} (hg : w.grownBy w' row) (hne : some B ≠ row) : In w' B k a b := by
  obtain ⟨h1, h2, h3, h4, h5, h6, h7⟩ := h
  have hB := hg.block B h1 hne
  have hc : ∀ i, w'.cell? ⟨B, i, none⟩ = w.cell? ⟨B, i, none⟩ := fun i => World.cell?_of_block (w := w) hB
  have hf : ∀ i, w'.frozen? ⟨B, i, none⟩ = w.frozen? ⟨B, i, none⟩ := fun i => World.frozen?_of_block (w := w) hB
  exact ⟨Nat.lt_of_lt_of_le h1 hg.size, (hc _).trans h2, (hc _).trans h3, (hc _).trans h4, (hf _).trans h5, (hf _).trans h6, (hf _).trans h7⟩
theorem putL_1 {n : Int} (h0 : 0 ≤ n) (h : n < 256) : putL 1 n = [n] := by
  have := (put_yes (k := 1) (n := n) (by omega) (by omega) h0 (by simpa [p256] using h)).2
  rw [show ((1 : Nat) : Int) = 1 from rfl] at this
  rw [this]
  simp [digs]
  omega
theorem putL_2 {n : Int} (h0 : 0 ≤ n) (h : n ≤ 1024) : putL 2 n = [n % 256, n / 256] := by
  have := (put_yes (k := 2) (n := n) (by omega) (by omega) h0 (by simp [p256]; omega)).2
  rw [show ((2 : Nat) : Int) = 2 from rfl] at this
  rw [this]
  simp [digs]
  omega
/-- What stands behind an append: the same block, or a new one. -/
def Fresh (B : Nat) (v v' : Value) : Prop := v'.ownBlock = v.ownBlock ∨ ∃ g, v'.ownBlock = some g ∧ B ≤ g
theorem cput_t (base : Nat) (W k : Int) (D : List Int) (hD : putL W k = D) (A : Option Addr) (n c : Nat) (X : List Int) (w : World) (hown : w.ownsRow base 5 1 (.slice A n c) n (cel X)) (hbase : base ≤ w.heap.size) (hs : n + D.length ≤ 1000000) :
    Calls Tryd.prog 32 #[.slice A n c, .int .i64 W, .int .i64 k] w fun e w' => ∃ A' c', e = .returned (.slice A' (n + D.length) c') ∧ w'.ownsRow base 5 1 (.slice A' (n + D.length) c') (n + D.length) (cel (X ++ D)) ∧
      w.grownBy w' (Value.slice A n c).ownBlock ∧ Below base w w' ∧ Fresh w.heap.size (.slice A n c) (.slice A' (n + D.length) c') := by
  have hinfo := Tryd.info5
  rw [Option.map_eq_some_iff] at hinfo
  obtain ⟨i0, hi, hz⟩ := hinfo
  simp only [Prod.mk.injEq] at hz
  obtain ⟨hz0, hz1, hz2⟩ := hz
  have P := fun w => Lib.hid (put_any W k w)
  have hBy := byt_putL W k
  rw [hD] at *
  have HBY := Lib.hid hBy
  clear hBy
  generalize putE W k = E at *
  go_enter Tryd.func32, Tryd.ntmps32
  go_wp2_with fail
  refine (P _).out.mono ?_
  rintro e w1 ⟨A1, c1, rfl, ho1, hb1⟩
  have HOW := Lib.hid hown
  have HR := Lib.hid (own_rd ho1 HBY.out)
  have HB := Lib.hid hb1
  have hsz := hb1.size
  clear ho1 hb1 hown P
  go_wp2_with (at_builtin; refine wpList_append_rd _ rfl _ _ 24 rfl base 5 i0 Tryd.underlying24 hi hz0 hz1 hz2 _ n X rfl (own_same HOW.out HB.out) _ _ c1 D rfl HR.out rfl (by omega) (by omega) ?_)
  intro A2 c2 w2 ho2 hg2 hb2 hor
  have H1 := Lib.hid ho2
  have H2 := Lib.hid hg2
  have H3 := Lib.hid hb2
  have H4 := Lib.hid hor
  clear ho2 hg2 hb2 hor
  go_wp2_with fail
  go_ret
  refine ⟨A2, c2, rfl, H1.out, (grown_of HB.out _).trans H2.out, (HB.out.mono hbase).trans H3.out, ?_⟩
  rcases H4.out with h | h
  · exact .inl h
  · exact .inr ⟨_, h, hsz⟩
set_option maxHeartbeats 2000000 in
theorem cbytes_t (A : Option Addr) (c m : Nat) (L : List Ins) (w : World) (hr : Ri w A c L) (hm : L.length = m) (hc : codM L = true) : Calls Tryd.prog 16 #[.slice A m c] w fun e w' => ∃ A' c', e = .returned (.tuple #[.slice A' (codB L).length c', .int .i64 0]) ∧ w'.ownsRow w.heap.size 5 1 (.slice A' (codB L).length c') (codB L).length (cel (codB L)) ∧ Below w.heap.size w w' := by
  subst hm
  have hc' := hc
  simp only [codM, Bool.and_eq_true, decide_eq_true_eq] at hc'
  obtain ⟨⟨hl1, hl2⟩, hall⟩ := hc'
  have HALL := Lib.hid (List.all_eq_true.1 hall)
  have HC := Lib.hid hc
  have HW := Lib.hid hr
  clear hc hall
  have hp1 : putL 1 (L.length : Int) = [(L.length : Int)] := putL_1 (by omega) (by omega)
  go_enter Tryd.func16, Tryd.ntmps16
  go_wp2_with fail
  refine (cmay_any A c _ L _ hr rfl).mono ?_
  rintro e w1 ⟨rfl, hb1⟩
  rw [HC.out]
  have HB1 := Lib.hid hb1
  clear hb1 hr
  go_wp2_with fail
  refine (cput_t w.heap.size 1 L.length [(L.length : Int)] hp1 none 0 0 [] _ (World.ownsRow_nil _ _ _ _) HB1.out.size (by simp)).mono ?_
  rintro e w2 ⟨A2, c2, rfl, ho2, -, hb2, -⟩
  have HO2 := Lib.hid ho2
  have HB2 := Lib.hid (HB1.out.trans hb2)
  clear ho2 hb2 hp1
  go_wp2_with fail
  go_loopw [4, 15] (fun o i wr => ∃ (j : Nat) (A' : Option Addr) (c' : Nat) (X : List Int) (N : Nat), j ≤ L.length ∧ i = .int .i64 j ∧ o = .slice A' N c' ∧ N ≤ 1 + 3 * j ∧ Hid (X = (L.length : Int) :: (L.take j).flatMap opr ∧ X.length = N ∧ wr.ownsRow w.heap.size 5 1 (.slice A' N c') N (cel X)) ∧ Hid (Below w.heap.size w wr))
    (fun _ i _ => L.length - (intOf i).toNat)
  case atStart => exact ⟨0, _, _, [(L.length : Int)], 1, by omega, rfl, rfl, by omega, Lib.hid ⟨by simp, rfl, HO2.out⟩, HB2⟩
  case round =>
    obtain ⟨j, A', c', X, N, hj, rfl, rfl, hN, HX, HB3⟩ := hrel
    clear HO2 HB2 HB1
    by_cases h1 : j < L.length
    · obtain ⟨ad, rfl, x0, x1, x2⟩ := (HW.out.keep HB3.out).at_ h1
      have hok := HW.out.1 _ (List.getElem_mem h1)
      obtain ⟨g1, g2, g3⟩ := opM_bd (HALL.out _ (List.getElem_mem h1))
      have hb0 := hok.1
      have hq1 := Lib.hid (putL_1 hb0.1 hb0.2)
      have hq2 := Lib.hid (putL_2 g1 g2)
      have HI := Lib.hid (In.new wr L[j].1 L[j].2.1 L[j].2.2)
      have HO := Lib.hid (own_same HX.out.2.2 (new1 (a := .cells #[.int .u8 L[j].1, .int .i64 L[j].2.1, .int .i64 L[j].2.2] 47)))
      have HB4 := Lib.hid (HB3.out.alloc HB3.out.size (.cells #[.int .u8 L[j].1, .int .i64 L[j].2.1, .int .i64 L[j].2.2] 47))
      have hne : Hid (some wr.heap.size ≠ (Value.slice A' N c').ownBlock) := Lib.hid fun e => by have := HX.out.2.2.lt _ e.symm; omega
      have HX1 := Lib.hid HX.out.1
      have HX2 := Lib.hid HX.out.2.1
      have HN1 : Hid ((X ++ [L[j].1]).length = N + 1) := by rw [Hid, List.length_append, HX2.out]; rfl
      clear HX hok
      have hH0 : wr.heap.size < (wr.alloc (.cells #[.int .u8 L[j].1, .int .i64 L[j].2.1, .int .i64 L[j].2.2] 47)).heap.size := by simp
      go_wp2_with fail
      refine (cput_t w.heap.size 1 L[j].1 [L[j].1] hq1.out A' N c' X _ HO.out HB4.out.size (by simp; omega)).mono ?_
      rintro e w4 ⟨A4, c4, rfl, ho4, hg4, hb4, hf4⟩
      have HO4 := Lib.hid ho4
      have HI4 := Lib.hid (HI.out.grown hg4 hne.out)
      have HB5 := Lib.hid (HB4.out.trans hb4)
      clear ho4 hg4 hb4 hf4 x0 x1 x2 HI HB4 HO hne
      obtain ⟨z, z0, z1, z2, -⟩ := HI4.out
      go_wp2_with fail
      refine (hasop_v _ _ _ rfl).mono ?_
      rintro e w5 ⟨rfl, rfl⟩
      cases hv : wdB L[j].1 with
      | true =>
        have HN : Hid (X ++ [L[j].1] ++ [L[j].2.1 % 256, L[j].2.1 / 256] = (L.length : Int) :: (L.take (j + 1)).flatMap opr) := by
          rw [Hid, HX1.out, List.take_add_one, List.getElem?_eq_getElem h1, Option.toList_some, List.flatMap_append, List.flatMap_cons, List.flatMap_nil, List.append_nil, opr, hv, if_pos rfl, List.append_assoc, List.cons_append]
          rfl
        go_wp2_with fail
        refine (cput_t w.heap.size 2 L[j].2.1 [L[j].2.1 % 256, L[j].2.1 / 256] hq2.out A4 (N + 1) c4 (X ++ [L[j].1]) _ HO4.out HB5.out.size (by simp; omega)).mono ?_
        rintro e w6 ⟨A6, c6, rfl, ho6, -, hb6, -⟩
        have HO6 := Lib.hid ho6
        have HB6 := Lib.hid (HB5.out.trans hb6)
        clear ho6 hb6 z0 z1 z2
        go_wp2_with fail
        go_roundw
        case rel => exact ⟨j + 1, A6, c6, _, N + 1 + 2, by omega, by go_num, rfl, by omega, Lib.hid ⟨HN.out, by rw [List.length_append, HN1.out]; rfl, HO6.out⟩, HB6⟩
        case measure => simp [intOf]; omega
      | false =>
        have HN : Hid (X ++ [L[j].1] = (L.length : Int) :: (L.take (j + 1)).flatMap opr) := by
          rw [Hid, HX1.out, List.take_add_one, List.getElem?_eq_getElem h1, Option.toList_some, List.flatMap_append, List.flatMap_cons, List.flatMap_nil, List.append_nil, opr, hv, if_neg (by decide), List.cons_append]
        go_wp2_with fail
        go_roundw
        case rel => exact ⟨j + 1, A4, c4, _, N + 1, by omega, by go_num, rfl, by omega, Lib.hid ⟨HN.out, HN1.out, HO4.out⟩, HB5⟩
        case measure => simp [intOf]; omega
    · obtain rfl : j = L.length := by omega
      have hx := HX.out
      rw [List.take_length, ← codB] at hx
      obtain ⟨rfl, rfl, ho⟩ := hx
      have HO := Lib.hid ho
      clear ho HX
      go_wp2_with fail
      go_ret2
      exact ⟨A', c', rfl, HO.out, HB3.out⟩
theorem cbytes_f (A : Option Addr) (c m : Nat) (L : List Ins) (w : World) (hr : Ri w A c L) (hm : L.length = m) (hc : codM L = false) : Calls Tryd.prog 16 #[.slice A m c] w fun e w' => e = .returned (.tuple #[.slice none 0 0, .int .i64 40]) ∧ Below w.heap.size w w' := by
  subst hm
  have HC := Lib.hid hc
  clear hc
  go_enter Tryd.func16, Tryd.ntmps16
  go_wp2_with fail
  refine (cmay_any A c _ L _ hr rfl).mono ?_
  rintro e w1 ⟨rfl, hb1⟩
  rw [HC.out]
  have HB := Lib.hid hb1
  clear hb1
  go_wp2_with fail
  go_ret2
  exact ⟨rfl, HB.out⟩
theorem kbytes (F : Fct) : KBytes F := fun A c m L w _ hr hm _ => by
  cases hc : codM L with
  | true =>
    refine (cbytes_t A c m L w hr hm hc).mono ?_
    rintro e w1 ⟨A', c', rfl, ho, hb⟩
    refine ⟨A', c', ?_, ?_, hb⟩
    · rw [byL, cdE, hc]; rfl
    · rw [byL, hc]; exact ho
  | false =>
    refine (cbytes_f A c m L w hr hm hc).mono ?_
    rintro e w1 ⟨rfl, hb⟩
    refine ⟨none, 0, ?_, ?_, hb⟩
    · rw [byL, cdE, hc]; rfl
    · rw [byL, hc]; exact World.ownsRow_nil _ _ _ _
end Go.Proofs.YthmfjdafmnmgiaaDoor
