/-
  Layer 5, package code: what the reader's code comes to; what Read answers, at every place.
-/
import Derived.Test.YthmfjdafmnmgiaaDoorCrd
import Derived.OwnWalk
import Derived.Laws.OwnMore
namespace Go.Proofs.YthmfjdafmnmgiaaDoor
open Go.RowKit
set_option maxRecDepth 100000
set_option linter.unusedSimpArgs false
set_option linter.unusedVariables false

theorem cei_put {xs : List Value} {K : List Ins} {j : Nat} (hj : K.length = j) (hx : xs.take (j * 3) = cei K) (hl : j * 3 + 3 ≤ xs.length) (y : Ins) :
    (((xs.set (j * 3) (.int .u8 y.1)).set (j * 3 + 1) (.int .i64 y.2.1)).set (j * 3 + 2) (.int .i64 y.2.2)).take ((j + 1) * 3) = cei (K ++ [y]) := by
  have h3 : (cei K).length = j * 3 := by rw [length_cei, hj]
  have hd : xs = cei K ++ xs.drop (j * 3) := by rw [← hx, List.take_append_drop]
  have hdl : 3 ≤ (xs.drop (j * 3)).length := by rw [List.length_drop]; omega
  match hr : xs.drop (j * 3), hdl with
  | u :: v :: t :: r, _ =>
    rw [hr] at hd
    rw [hd, List.set_append_right _ _ (by omega), h3, Nat.sub_self, List.set_cons_zero, List.set_append_right _ _ (by omega), h3, show j * 3 + 1 - j * 3 = 0 + 1 by omega, List.set_cons_succ, List.set_cons_zero,
      List.set_append_right _ _ (by omega), h3, show j * 3 + 2 - j * 3 = 0 + 1 + 1 by omega, List.set_cons_succ, List.set_cons_succ, List.set_cons_zero, List.take_append, h3, List.take_of_length_le (by omega),
      show (j + 1) * 3 - j * 3 = 3 by omega, cei_append, cei_cons]
    rfl
def CR (w w' : World) (B : Nat) (A : Option Addr) (c n : Nat) (l : List Int) (p : Int) (e : Ending) : Prop := w.grownBy w' (some B) ∧
  ((∃ E, e = .panicked [{ v := .iface 27 (.int .i64 E), recovered := false }] ∧ E ≠ 0 ∧ (rdC l p).1 = E) ∨
   (∃ q : Int, e = .returned (.tuple #[.slice none 0 0, .int .i64 40]) ∧ (rdC l p).1 = 40 ∧ Rr w' B A c n q) ∨
   ∃ (A' : Option Addr) (c' : Nat) (L : List Ins) (q : Nat), e = .returned (.tuple #[.slice A' L.length c', .int .i64 0]) ∧ rdC l p = (0, L, q) ∧ Ri w' A' c' L ∧ Rr w' B A c n q ∧ ∃ g, A' = some ⟨g, 0, none⟩ ∧ w.heap.size ≤ g)
theorem rdC_e {l : List Int} {p : Int} {K : List Ins} {k q : Nat} {E : Int} (h : rdC l p = apC K (rdS l (k + 1) q)) (h1 : (rd1 l q).1 = E) (h0 : E ≠ 0) : (rdC l p).1 = E := by
  rw [h, rdS_no h1 h0, apC, if_neg h0]
set_option maxHeartbeats 4000000 in
theorem rcode_any (B : Nat) (A : Option Addr) (c n : Nat) (l : List Int) (p : Int) (w : World) (hr : Rd w A c l) (hn : l.length = n) (h : Rr w B A c n p) (hA : ∀ ad, A = some ad → 0 < l.length → some ad.block ≠ some B) : Calls Tryd.prog 38 #[.pointer (some ⟨B, 0, none⟩)] w fun e w' => CR w w' B A c n l p e := by
  have HR := Lib.hid hr
  have HBY := Lib.hid hr.byt
  have hB := h.1
  have hQ0 := Lib.hid h
  have HA := Lib.hid hA
  clear hA h
  by_cases hp : p < 0 ∨ l.length < p
  · have e1 : getE l p 1 = 2 := by rw [get_eq (by omega), (cut_arg hp).1]; rfl
    have K2 := fun w hr h => Lib.hid (num_bad B A c n l p 1 2 w hr hn h e1 (by decide))
    have HN : Hid ((rdC l p).1 = 2) := by rw [Hid, rdC_neg hp]
    clear e1 hr hp
    go_enter Tryd.func38, Tryd.ntmps38
    go_wp2_with fail
    refine (K2 _ HR.out hQ0.out).out.mono ?_
    rintro e w2 ⟨rfl, hb4⟩
    have HG4 := Lib.hid (grown_of hb4 (some B))
    clear hb4
    go_wp2_with fail
    exact ⟨rfl, HG4.out, .inl ⟨_, rfl, by decide, HN.out⟩⟩
  · obtain ⟨p, rfl⟩ : ∃ k : Nat, p = k := ⟨p.toNat, by omega⟩
    by_cases h1 : p < l.length
    · obtain ⟨m, hm⟩ : ∃ m : Nat, l[p]?.getD 0 = m := ⟨(l[p]?.getD 0).toNat, by have := hr.byte p; omega⟩
      have hoB := hr.byte p
      rw [hm] at hoB
      obtain ⟨e1, e2, e3⟩ := get1 hr.byt h1
      rw [hm] at e2
      have K1 := fun w hr h => Lib.hid (num_ok B A c n l p 1 m (p + 1) w hr hn h e1 e2 e3)
      have HO := Lib.hid hm
      clear e1 e2 e3 hr hm
      go_enter Tryd.func38, Tryd.ntmps38
      go_wp2_with fail
      refine (K1 _ HR.out hQ0.out).out.mono ?_
      rintro e w2 ⟨rfl, hg2, hq2⟩
      have HG2 := Lib.hid hg2
      have HQ2 := Lib.hid hq2
      have hsz2 := hg2.size
      clear hg2 hq2 hQ0 K1
      cases hv : mcB m with
      | false =>
        have HN : Hid ((rdC l p).1 = 40) := by
          rw [Hid, rdC_many h1 (by rw [HO.out]; unfold mcB at hv; by_cases g : (1 : Int) ≤ m <;> simp_all <;> omega)]
        go_wp2_with fail
        refine (mayc_v _ _ _ hv).mono ?_
        rintro e w3 ⟨rfl, rfl⟩
        go_wp2_with fail
        go_ret2
        exact ⟨HG2.out, .inr (.inl ⟨_, rfl, HN.out, HQ2.out⟩)⟩
      | true =>
        have hm12 : 1 ≤ m ∧ m ≤ 200 := by
          unfold mcB at hv
          rw [Bool.and_eq_true, decide_eq_true_eq, decide_eq_true_eq] at hv
          omega
        have HC := Lib.hid (rdC_yes h1 HO.out hm12)
        go_wp2_with fail
        refine (mayc_v _ _ _ hv).mono ?_
        rintro e w3 ⟨rfl, rfl⟩
        clear hv
        have hinfo := Tryd.infoI
        rw [Option.map_eq_some_iff] at hinfo
        obtain ⟨i0, hi, hz⟩ := hinfo
        simp only [Prod.mk.injEq] at hz
        obtain ⟨hz0, hz1, hz2⟩ := hz
        go_wp2_with (at_make; refine wpList_make_full _ rfl _ _ 22 rfl w.heap.size 47 i0 _ 3 Tryd.underlying22 hi hz0 hz1 .i64 .i64 m m m rfl rfl rfl rfl (by rw [hz2]; omega) (by unfold maxLen; omega) hsz2 ?_)
        intro w4 ho4 hg4
        obtain ⟨xs0, hx0⟩ : ∃ xs0, (madeCells #[.int .u8 0, .int .i64 0, .int .i64 0] (m * 3)).toList = xs0 := ⟨_, rfl⟩
        rw [hx0] at ho4
        have HO4 := Lib.hid ho4
        have HG4 := Lib.hid ((HG2.out).trans (show w2.grownBy w4 (some B) from ⟨hg4.os, hg4.tape, hg4.output, hg4.size, fun i hi _ => hg4.block i hi (by simp)⟩))
        have HQ4 : Hid (Rr w4 B A c n ((p + 1 : Nat) : Int)) := Lib.hid (by
          have := HQ2.out.keep (w' := w4) ⟨hg4.os, hg4.tape, hg4.output, hg4.size, fun i hi => hg4.block i hi (by simp)⟩
          rwa [show (p : Int) + 1 = ((p + 1 : Nat) : Int) by omega] at this)
        clear ho4 hg4 hx0 hi hz0 hz1 hz2 i0 HG2 HQ2
        generalize hg : w2.heap.size = g at *
        have hgB : B < g := by omega
        have hwg : w.heap.size ≤ g := by omega
        clear hg hsz2
        go_wp2_with fail
        go_loopw [18] (fun i wr => ∃ (j q : Nat) (K : List Ins) (xs : List Value), j ≤ m ∧ i = .int .i64 j ∧ Hid (rdC l p = apC K (rdS l (m - j) q) ∧ K.length = j ∧ (∀ x ∈ K, InOk x) ∧ q ≤ l.length) ∧ Hid (wr.ownsRow w.heap.size 47 3 (.slice (some ⟨g, 0, none⟩) m m) m xs ∧ xs.take (j * 3) = cei K) ∧ Hid (w.grownBy wr (some B)) ∧ Hid (Rr wr B A c n q)) (fun i _ => m - (intOf i).toNat)
        case atStart => exact ⟨0, p + 1, [], xs0, by omega, rfl, Lib.hid ⟨by rw [HC.out, apC_nil (rdS_err _ _ _)]; rfl, rfl, fun x hx => (by cases hx), h1⟩, Lib.hid ⟨HO4.out, by simp [cei]⟩, HG4, HQ4⟩
        case round =>
          obtain ⟨j, q, K, xs, hj, rfl, HX, HO5, HG5, HQ5⟩ := hrel
          clear HO4 HG4 HQ4 HC
          by_cases hjm : j < m
          · have HR5 := Lib.hid (HR.out.grown HG5.out (fun ad e h => HA.out ad e h))
            have hX1 : Hid (rdC l p = apC K (rdS l ((m - (j + 1)) + 1) q)) := by rw [Hid, HX.out.1, show m - (j + 1) + 1 = m - j by omega]
            go_wp2_with fail
            refine (instr_any B A c n l q _ HR5.out hn HX.out.2.2.2 HQ5.out HA.out).mono ?_
            rintro e w6 ⟨hg6, hh⟩
            have HG6 := Lib.hid (HG5.out.trans hg6)
            have HO6 := Lib.hid (HO5.out.1.kept hg6 (.inr (by simp [Value.ownBlock]; omega)))
            clear hg6 HR5
            rcases hh with ⟨rfl, h10⟩ | ⟨x, v, q', rfl, hq6, hok, hql, hif⟩
            · have HN := Lib.hid (rdC_e hX1.out h10 (by decide))
              clear h10
              go_wp2_with fail
              exact ⟨rfl, HG6.out, .inl ⟨_, rfl, by decide, HN.out⟩⟩
            · have HQ6 := Lib.hid hq6
              have HOK := Lib.hid hok
              have HQL := Lib.hid hql
              have HIF := Lib.hid hif
              clear hq6 hok hql hif
              have HG7 := Lib.hid (grown_on HG6.out (new1 (a := .cells #[.int .u8 x.1, .int .i64 x.2.1, .int .i64 x.2.2] 47)))
              have HQ7 := Lib.hid (HQ6.out.keep (new1 (a := .cells #[.int .u8 x.1, .int .i64 x.2.1, .int .i64 x.2.2] 47)))
              have HO7 := Lib.hid (own_same HO6.out (new1 (a := .cells #[.int .u8 x.1, .int .i64 x.2.1, .int .i64 x.2.2] 47)))
              cases v with
              | false =>
                have HN := Lib.hid (rdC_e hX1.out (by simpa using HIF.out) (by decide))
                go_wp2_with fail
                go_ret2
                exact ⟨HG7.out, .inr (.inl ⟨_, rfl, HN.out, HQ7.out⟩)⟩
              | true =>
                have HRD : Hid (rd1 l q = (0, x, q')) := Lib.hid (by simpa using HIF.out)
                have hxl : xs.length = m * 3 := by simpa using HO7.out.1
                have c0 := HO7.out.cellAt (j * 3) (by omega)
                have c1 := HO7.out.cellAt (j * 3 + 1) (by omega)
                have c2 := HO7.out.cellAt (j * 3 + 2) (by omega)
                have f0 := HO7.out.frozenAt (j * 3)
                have f1 := HO7.out.frozenAt (j * 3 + 1)
                have f2 := HO7.out.frozenAt (j * 3 + 2)
                rw [List.getElem?_eq_getElem (by omega)] at c0 c1 c2
                have HO8 := Lib.hid (((((HO7.out.stored (j * 3) (.int .u8 x.1)).1).stored (j * 3 + 1) (.int .i64 x.2.1)).1).stored (j * 3 + 2) (.int .i64 x.2.2)).1
                have HP := Lib.hid (cei_put HX.out.2.1 HO5.out.2 (by omega) x)
                have HG8 := Lib.hid (grown_set (grown_set (grown_set HG7.out (.inl (show w.heap.size ≤ (⟨g, j * 3, none⟩ : Addr).block from hwg)) (.int .u8 x.1)) (.inl (show w.heap.size ≤ (⟨g, j * 3 + 1, none⟩ : Addr).block from hwg)) (.int .i64 x.2.1)) (.inl (show w.heap.size ≤ (⟨g, j * 3 + 2, none⟩ : Addr).block from hwg)) (.int .i64 x.2.2))
                have HQ8 := Lib.hid (((HQ7.out.other (show (⟨g, j * 3, none⟩ : Addr).block ≠ B from by simp; omega) (.int .u8 x.1)).other (show (⟨g, j * 3 + 1, none⟩ : Addr).block ≠ B from by simp; omega) (.int .i64 x.2.1)).other (show (⟨g, j * 3 + 2, none⟩ : Addr).block ≠ B from by simp; omega) (.int .i64 x.2.2))
                have HX8 : Hid (rdC l p = apC (K ++ [x]) (rdS l (m - (j + 1)) q') ∧ (K ++ [x]).length = j + 1 ∧ (∀ y ∈ K ++ [x], InOk y) ∧ q' ≤ l.length) := by
                  refine ⟨by rw [hX1.out, rdS_yes HRD.out, apC_apC], by rw [List.length_append, HX.out.2.1]; rfl, fun y hy => ?_, HQL.out⟩
                  rcases List.mem_append.1 hy with hy | hy
                  · exact HX.out.2.2.1 y hy
                  · rw [List.mem_singleton.1 hy]; exact HOK.out
                go_wp2_with fail
                go_roundw
                case rel => exact ⟨j + 1, q', K ++ [x], _, by omega, by go_num, HX8, Lib.hid ⟨HO8.out, HP.out⟩, HG8, HQ8⟩
                case measure => simp [intOf]; omega
          · obtain rfl : j = m := by omega
            have hxl : xs.length = j * 3 := by simpa using HO5.out.1.1
            have hxs : xs = cei K := by rw [← HO5.out.2, List.take_of_length_le (by omega)]
            have HRI := Lib.hid (Ri.of_own (L := K) (by have := HO5.out.1; rwa [hxs] at this) HX.out.2.2.1).1
            have HN : Hid (rdC l p = (0, K, q)) := by rw [Hid, HX.out.1, Nat.sub_self, rdS, apC, if_pos rfl, List.append_nil]
            have HL := Lib.hid HX.out.2.1
            clear HX HO5
            go_wp2_with fail
            go_ret2
            exact ⟨HG5.out, .inr (.inr ⟨some ⟨g, 0, none⟩, j, K, q, by rw [HL.out]; rfl, HN.out, HRI.out, HQ5.out, g, rfl, hwg⟩)⟩
    · have e1 := get_short (l := l) (p := (p : Int)) (W := 1) (by omega) (by omega) (by omega) (by omega)
      have K2 := fun w hr h => Lib.hid (num_bad B A c n l p 1 10 w hr hn h e1 (by decide))
      have HN : Hid ((rdC l p).1 = 10) := by rw [Hid, rdC_end (by omega)]
      clear e1 hr
      go_enter Tryd.func38, Tryd.ntmps38
      go_wp2_with fail
      refine (K2 _ HR.out hQ0.out).out.mono ?_
      rintro e w2 ⟨rfl, hb4⟩
      have HG4 := Lib.hid (grown_of hb4 (some B))
      clear hb4
      go_wp2_with fail
      exact ⟨rfl, HG4.out, .inl ⟨_, rfl, by decide, HN.out⟩⟩
end Go.Proofs.YthmfjdafmnmgiaaDoor
