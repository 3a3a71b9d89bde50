/-
  Layer 8, package module: what readMethods answers: in memory of the call's own.
-/
import Derived.Test.YteimpkjpoijhmaaDoorNd
import Derived.Test.YteimpkjpoijhmaaDoorNx
import Derived.Test.YteimpkjpoijhmaaDoorMr
import Derived.Test.YteimpkjpoijhmaaDoorLh
import Derived.Test.YteimpkjpoijhmaaDoorLj
import Derived.Test.YteimpkjpoijhmaaDoorHq
import Derived.OwnWalk
import Derived.Laws.OwnMore
namespace Go.Proofs.YteimpkjpoijhmaaDoor
open Go.RowKit
set_option maxRecDepth 100000
set_option linter.unusedSimpArgs false
set_option linter.unusedVariables false

/-- A method that is nothing yet. -/
def zme : Me := ⟨Mc.zero, Mh.zero, []⟩
theorem made_cem (K : Nat) : (madeCells #[.slice none 0 0, .slice none 0 0, .int .u8 0, .bool false, .int .i64 0, .int .i64 0, .int .i64 0, .slice none 0 0] (K * 8)).toList = cem (List.replicate K zme) := by
  apply List.ext_getElem?
  intro i
  by_cases hi : i < K * 8
  · have h1 : (List.replicate K zme)[i / 8]? = some zme := by rw [List.getElem?_replicate, if_pos (by omega)]
    have h2 := cem_at h1 (i % 8) (by omega)
    rw [show i / 8 * 8 + i % 8 = i by omega] at h2
    rw [h2]
    have h3 : i % 8 < 8 := by omega
    simp [madeCells, hi]
    generalize i % 8 = r at h3
    have h4 : r = 0 ∨ r = 1 ∨ r = 2 ∨ r = 3 ∨ r = 4 ∨ r = 5 ∨ r = 6 ∨ r = 7 := by omega
    rcases h4 with rfl | rfl | rfl | rfl | rfl | rfl | rfl | rfl <;> rfl
  · rw [List.getElem?_eq_none (by rw [Array.length_toList, size_madeCells]; omega), List.getElem?_eq_none (by rw [length_cem, List.length_replicate]; omega)]
theorem qms_no {l : List Int} {q n e : Int} {m : Mh} (h : rdQ l q = (m, n, e)) (h0 : e ≠ 0) (k : Nat) : qms l (k + 1) q = ([], 0, e) := by
  simp only [qms, h]
  simp [h0]
theorem qms_no2 {l : List Int} {q n f : Int} {t : Nat} {m : Mh} {L : List Ins} (h : rdQ l q = (m, n, 0)) (h1 : rdC l n = (f, L, t)) (h0 : f ≠ 0) (k : Nat) : qms l (k + 1) q = ([], 0, f) := by
  simp only [qms, h, h1]
  simp [h0]
theorem qms_yes {l : List Int} {q n : Int} {t : Nat} {m : Mh} {L : List Ins} (h : rdQ l q = (m, n, 0)) (h1 : rdC l n = (0, L, t)) (k : Nat) : qms l (k + 1) q = apM [(m, L)] (qms l k t) := by
  simp only [qms, h, h1]
  simp
theorem apM_no {K : List Mz} {e : Int} (h : e ≠ 0) : apM K ([], 0, e) = ([], 0, e) := by rw [apM, if_neg h]
theorem cem_code (T R : List Me) (x : Mc) (m : Mh) (A6 : Option Addr) (c6 : Nat) (L : List Ins) (k0 : List Ins) :
    (cem ((T ++ [⟨x, m, k0⟩]) ++ R)).set (T.length * 8 + 7) (.slice A6 L.length c6) = cem ((T ++ [⟨⟨x.A, x.c, x.B, x.d, A6, L.length, c6⟩, m, L⟩]) ++ R) := by
  have e : ∀ z, cem ((T ++ [z]) ++ R) = cem T ++ (ce8 z ++ cem R) := fun z => by simp [cem]
  have hl := length_cem T
  rw [e, e, List.set_append_right _ _ (by rw [hl]; omega), hl, show T.length * 8 + 7 - T.length * 8 = 7 by omega]
  rfl
set_option maxHeartbeats 8000000 in
theorem rms_v (A : Option Addr) (c n : Nat) (l : List Int) (p : Int) (K : Nat) (w : World) (hw : fWM.p w) (hr : Rd w A c l) (hn : l.length = n) (hk : K ≤ 16) :
    Calls Tryd.prog 81 #[.slice A n c, .int .i64 p, .int .i64 K] w fun e w' => ∃ A' c' Z, e = .returned (.tuple #[.slice A' (qms l K p).1.length c', .int .i64 (qms l K p).2.1, .int .i64 (qms l K p).2.2]) ∧
      w'.ownsRow w.heap.size 49 8 (.slice A' (qms l K p).1.length c') (qms l K p).1.length (cem Z) ∧ (∀ z ∈ Z, Wz w' w.heap.size z) ∧ Z.map ze = (qms l K p).1 ∧ Below w.heap.size w w' := by
  subst hn
  have hlen := hr.len
  have S00 : Hid (∀ w', Below w.heap.size w w' → Rd w' A c l ∧ fWM.p w') := Lib.hid fun w' hb => ⟨hr.keep hb, fWM.keep w w' hw hb⟩
  obtain ⟨R, hR⟩ : ∃ R, qms l K p = R := ⟨_, rfl⟩
  have HI : Hid (R = apM [] (qms l (K - 0) p)) := by rw [Hid, ← hR]; exact (apM_nil _ (qms_err l _ _)).symm
  rw [hR]
  clear hr hw hR
  have hinfo := Tryd.infoM
  rw [Option.map_eq_some_iff] at hinfo
  obtain ⟨i0, hi, hz⟩ := hinfo
  simp only [Prod.mk.injEq] at hz
  obtain ⟨hz0, hz1, hz2⟩ := hz
  go_enter Tryd.func81, Tryd.ntmps81
  go_wp2_with (at_make; refine wpList_make_full _ rfl _ _ 23 rfl w.heap.size 49 i0 _ 8 Tryd.underlying23 hi hz0 hz1 .i64 .i64 K K K rfl rfl rfl rfl (by rw [hz2]; omega) (by unfold maxLen; omega) (Nat.le_refl _) ?_)
  intro w2 ho2 hg2
  have HO2 : Hid (w2.ownsRow w.heap.size 49 8 (.slice (some ⟨w.heap.size, 0, none⟩) K K) K (cem ([] ++ List.replicate K zme))) := by
    rw [Hid, List.nil_append, ← made_cem]
    exact ho2
  have HB2 : Hid (Below w.heap.size w w2) := Lib.hid ⟨hg2.os, hg2.tape, hg2.output, hg2.size, fun i hi => hg2.block i hi (by simp)⟩
  clear ho2 hg2 hi hz0 hz1 hz2 i0
  generalize hg : w.heap.size = g at *
  have hgw := Lib.hid hg
  clear hg
  go_wp2_with fail
  go_loopw [6, 7, 15] (fun r o i wr => ∃ (j : Nat) (q : Int) (T Y : List Me), j ≤ K ∧ i = .int .i64 j ∧ o = .int .i64 q ∧ r = .slice (some ⟨g, 0, none⟩) K K ∧ Hid (R = apM (T.map ze) (qms l (K - j) q) ∧ T.length = j ∧ Y.length = K - j) ∧ Hid (wr.ownsRow g 49 8 (.slice (some ⟨g, 0, none⟩) K K) K (cem (T ++ Y)) ∧ ∀ z ∈ T, Wz wr g z) ∧ Hid (Below g w wr)) (fun _ _ i _ => K - (intOf i).toNat)
  case atStart => exact ⟨0, p, [], List.replicate K zme, by omega, rfl, rfl, rfl, Lib.hid ⟨HI.out, rfl, by rw [List.length_replicate]; rfl⟩, Lib.hid ⟨HO2.out, fun z hz => (by cases hz)⟩, HB2⟩
  case round =>
    obtain ⟨j, q, T, Y, hj, rfl, rfl, rfl, HX, HO, HB⟩ := hrel
    clear HI HO2 HB2
    by_cases h1 : j < K
    · obtain ⟨m, n2, e2, hrd⟩ : ∃ m n2 e2, rdQ l q = (m, n2, e2) := ⟨_, _, _, rfl⟩
      have HRD := Lib.hid hrd
      have HK := fun w hr hw => Lib.hid (mreadw_v A c l.length l q (m, n2, e2) w hr rfl hw hrd)
      clear hrd
      match Y, HX, HO with
      | [], HX, HO => exact absurd HX.out.2.2 (by simp; omega)
      | y :: Y, HX, HO =>
      go_wp2_with fail
      refine (HK _ (S00.out _ HB.out).1 (S00.out _ HB.out).2.2).out.mono ?_
      rintro e w3 ⟨⟨XA, xc, XB, xd, XD, xk, xe⟩, rfl, ⟨hxk, hxD, hxe⟩, ⟨hoA, hoB⟩, hhd, hb3⟩
      dsimp only at hxk hxD hxe hoA hoB
      subst hxk hxD hxe
      have HHD := Lib.hid hhd
      have HOA := Lib.hid (own_base hoA (show g ≤ wr.heap.size from hgw.out ▸ HB.out.size))
      have HOB := Lib.hid (own_base hoB (show g ≤ wr.heap.size from hgw.out ▸ HB.out.size))
      have HB3 := Lib.hid (HB.out.trans (hb3.mono (show g ≤ wr.heap.size from hgw.out ▸ HB.out.size)))
      have HO3 := Lib.hid (own_below HO.out.1 hb3 (Nat.le_refl _))
      have HT3 : Hid (∀ z ∈ T, Wz w3 g z) := Lib.hid (fun z hz => (HO.out.2 z hz).keep hb3)
      clear hhd hoA hoB hb3 HK HB HO
      have hrow := row_at HO3.out HX.out.2.1 (by have h2 := HX.out.2.1; have h3 := HX.out.2.2; simp at h3 ⊢; omega)
      obtain ⟨hr1, hr2⟩ := hrow
      have x0 := hr1 0 _ (by omega) rfl
      rw [Nat.add_zero] at x0
      have x1 := hr1 1 _ (by omega) rfl
      have x2 := hr1 2 _ (by omega) rfl
      have x3 := hr1 3 _ (by omega) rfl
      have x4 := hr1 4 _ (by omega) rfl
      have x5 := hr1 5 _ (by omega) rfl
      have x6 := hr1 6 _ (by omega) rfl
      have x7 := hr1 7 _ (by omega) rfl
      have f0 := hr2 0 (by omega)
      rw [Nat.add_zero] at f0
      have f1 := hr2 1 (by omega)
      have f2 := hr2 2 (by omega)
      have f3 := hr2 3 (by omega)
      have f4 := hr2 4 (by omega)
      have f5 := hr2 5 (by omega)
      have f6 := hr2 6 (by omega)
      have f7 := hr2 7 (by omega)
      clear hr1 hr2
      have HTL := Lib.hid HX.out.2.1
      obtain ⟨⟨kB, hBk⟩, -⟩ := own_bk HO3.out
      have HO4 := Lib.hid (st8_own HO3.out ⟨⟨XA, xc, XB, xd, none, 0, 0⟩, m, []⟩)
      have key : ∀ v : World, Bk v g 49 kB → ∀ j u, Bk (v.setCell ⟨g, j, none⟩ u) g 49 kB := fun v hv j u => hv.set g j u
      have HT4 : Hid (∀ z ∈ T, Wz (st8 w3 g (T.length * 8) ⟨⟨XA, xc, XB, xd, none, 0, 0⟩, m, []⟩) g z) := Lib.hid (fun z hz => (st8_keep (p := fun v => Wz v g z ∧ Bk v g 49 kB) ⟨HT3.out z hz, hBk⟩ (fun v j u hv => ⟨hv.1.tag hv.2 j u, key v hv.2 j u⟩) _ _).1)
      have HA4 := Lib.hid (st8_keep (p := fun v => v.ownsRow g 5 1 (.slice XA m.a.length xc) m.a.length (cel m.a) ∧ Bk v g 49 kB) ⟨HOA.out, hBk⟩ (fun v j u hv => ⟨own_tag hv.1 hv.2 (by decide) j u, key v hv.2 j u⟩) (T.length * 8) ⟨⟨XA, xc, XB, xd, none, 0, 0⟩, m, []⟩).1
      have HB4 := Lib.hid (st8_keep (p := fun v => v.ownsRow g 5 1 (.slice XB m.l.length xd) m.l.length (cel m.l) ∧ Bk v g 49 kB) ⟨HOB.out, hBk⟩ (fun v j u hv => ⟨own_tag hv.1 hv.2 (by decide) j u, key v hv.2 j u⟩) (T.length * 8) ⟨⟨XA, xc, XB, xd, none, 0, 0⟩, m, []⟩).1
      have HE4 := Lib.hid (st8_keep (p := fun v => Below g w v) HB3.out (fun v j u hv => hv.setCell (Nat.le_refl _) u) (T.length * 8) ⟨⟨XA, xc, XB, xd, none, 0, 0⟩, m, []⟩)
      rw [HTL.out] at HO4 HT4 HA4 HB4 HE4
      clear HO3 HT3 HOA HOB HB3 hBk key
      go_upto_region 7 with (fail)
      obtain ⟨w4, hw4⟩ : ∃ w4, st8 w3 g (j * 8) ⟨⟨XA, xc, XB, xd, none, 0, 0⟩, m, []⟩ = w4 := ⟨_, rfl⟩
      rw [hw4] at HO4 HT4 HA4 HB4 HE4
      simp only [st8] at hw4
      rw [hw4]
      clear hw4 x0 x1 x2 x3 x4 x5 x6 x7 f0 f1 f2 f3 f4 f5 f6 f7
      by_cases he2 : e2 = 0
      · subst he2
        obtain ⟨f, L, t, hrc⟩ : ∃ f L t, rdC l n2 = (f, L, t) := ⟨_, _, _, rfl⟩
        have HRC := Lib.hid hrc
        have HK2 := fun w hr => Lib.hid (creadw_any A c l.length l n2 w hr rfl)
        rw [hrc] at HK2
        dsimp only at HK2
        clear hrc
        go_wp2_with fail
        refine (HK2 _ (S00.out _ HE4.out).1).out.mono ?_
        rintro e w5 ⟨A6, c6, rfl, hri, hoD, hb5⟩
        have HRI := Lib.hid hri.1
        have HD5 := Lib.hid (own_base hoD (show g ≤ w4.heap.size from hgw.out ▸ HE4.out.size))
        have HE5 := Lib.hid (HE4.out.trans (hb5.mono (show g ≤ w4.heap.size from hgw.out ▸ HE4.out.size)))
        have HO5 := Lib.hid (own_below HO4.out hb5 (Nat.le_refl _))
        have HA5 := Lib.hid (own_below HA4.out hb5 (Nat.le_refl _))
        have HB5 := Lib.hid (own_below HB4.out hb5 (Nat.le_refl _))
        have HT5 : Hid (∀ z ∈ T, Wz w5 g z) := Lib.hid (fun z hz => (HT4.out z hz).keep hb5)
        clear hri hoD hb5 HK2 HE4 HO4 HA4 HB4 HT4
        have hO5b := HO5.out
        rw [List.append_assoc, List.singleton_append] at hO5b
        have hrow := row_at hO5b HX.out.2.1 (by have h2 := HX.out.2.1; have h3 := HX.out.2.2; simp at h3 ⊢; omega)
        obtain ⟨hr1, hr2⟩ := hrow
        have x7 := hr1 7 _ (by omega) rfl
        have f7 := hr2 7 (by omega)
        clear hr1 hr2
        obtain ⟨⟨kB, hBk⟩, -⟩ := own_bk hO5b
        clear hO5b
        have HO6 := Lib.hid (HO5.out.stored (j * 8 + 7) (.slice A6 L.length c6)).1
        have hcc := cem_code T Y ⟨XA, xc, XB, xd, none, 0, 0⟩ m A6 c6 L []
        rw [HTL.out] at hcc
        rw [hcc] at HO6
        clear hcc
        have HT6 : Hid (∀ z ∈ T, Wz (w5.setCell ⟨g, j * 8 + 7, none⟩ (.slice A6 L.length c6)) g z) := Lib.hid (fun z hz => (HT5.out z hz).tag hBk _ _)
        have HZ6 : Hid (Wz (w5.setCell ⟨g, j * 8 + 7, none⟩ (.slice A6 L.length c6)) g ⟨⟨XA, xc, XB, xd, A6, L.length, c6⟩, m, L⟩) :=
          Lib.hid ⟨⟨HHD.out.1.byt, HHD.out.2.1.byt, HHD.out.2.2, HRI.out, rfl⟩, own_tag HA5.out hBk (by decide) _ _, own_tag HB5.out hBk (by decide) _ _, own_tag HD5.out hBk (by decide) _ _⟩
        have HE6 := Lib.hid (HE5.out.setCell (p := ⟨g, j * 8 + 7, none⟩) (Nat.le_refl _) (.slice A6 L.length c6))
        clear HO5 HA5 HB5 HD5 HT5 HE5 HHD HRI hBk
        go_upto_region 10 with (fail)
        generalize w5.setCell ⟨g, j * 8 + 7, none⟩ (.slice A6 L.length c6) = w6 at HO6 HT6 HZ6 HE6 ⊢
        clear x7 f7
        by_cases hf : f = 0
        · subst hf
          have HX6 : Hid (R = apM ((T ++ [(⟨⟨XA, xc, XB, xd, A6, L.length, c6⟩, m, L⟩ : Me)]).map ze) (qms l (K - (j + 1)) t) ∧ (T ++ [(⟨⟨XA, xc, XB, xd, A6, L.length, c6⟩, m, L⟩ : Me)]).length = j + 1 ∧ Y.length = K - (j + 1)) := by
            obtain ⟨i1, i2, i3⟩ := HX.out
            refine ⟨?_, by rw [List.length_append, i2]; rfl, by simp at i3; omega⟩
            rw [i1, show K - j = (K - (j + 1)) + 1 by omega, qms_yes HRD.out HRC.out, apM_apM, List.map_append]
            rfl
          have HW6 : Hid (w6.ownsRow g 49 8 (.slice (some ⟨g, 0, none⟩) K K) K (cem ((T ++ [⟨⟨XA, xc, XB, xd, A6, L.length, c6⟩, m, L⟩]) ++ Y)) ∧ ∀ z ∈ (T ++ [(⟨⟨XA, xc, XB, xd, A6, L.length, c6⟩, m, L⟩ : Me)]), Wz w6 g z) := Lib.hid ⟨HO6.out, fun z hz => by
            rcases List.mem_append.1 hz with hz | hz
            · exact HT6.out z hz
            · rw [List.mem_singleton.1 hz]; exact HZ6.out⟩
          clear HX HO6 HT6 HZ6 HRD HRC
          go_wp2_with fail
          go_roundw
          case rel => exact ⟨j + 1, t, T ++ [⟨⟨XA, xc, XB, xd, A6, L.length, c6⟩, m, L⟩], Y, by omega, by go_num, rfl, rfl, HX6, HW6, HE6⟩
          case measure => simp [intOf]; omega
        · have HN : Hid (R = ([], 0, f)) := by
            rw [Hid, HX.out.1, show K - j = (K - (j + 1)) + 1 by omega, qms_no2 HRD.out HRC.out hf, apM_no hf]
          clear HX HO6 HT6 HZ6 HRD HRC
          go_wp2_with fail
          go_ret3
          obtain rfl := HN.out
          rw [hgw.out]
          exact ⟨none, 0, [], rfl, World.ownsRow_nil _ _ _ _, fun z hz => (by cases hz), rfl, HE6.out⟩
      · have HN : Hid (R = ([], 0, e2)) := by
          rw [Hid, HX.out.1, show K - j = (K - (j + 1)) + 1 by omega, qms_no HRD.out he2, apM_no he2]
        clear HX HO4 HT4 HA4 HB4 HRD
        go_wp2_with fail
        go_ret3
        obtain rfl := HN.out
        rw [hgw.out]
        exact ⟨none, 0, [], rfl, World.ownsRow_nil _ _ _ _, fun z hz => (by cases hz), rfl, HE4.out⟩
    · obtain rfl : j = K := by omega
      have hY : Y = [] := List.eq_nil_of_length_eq_zero (by have := HX.out.2.2; omega)
      subst hY
      have HN : Hid (R = (T.map ze, q, 0)) := by
        rw [Hid, HX.out.1, Nat.sub_self, qms, apM, if_pos rfl, List.append_nil]
      have HL := Lib.hid HX.out.2.1
      have HO8 := Lib.hid HO.out
      rw [List.append_nil] at HO8
      clear HX HO
      go_wp2_with fail
      go_ret3
      obtain rfl := HN.out
      rw [hgw.out]
      exact ⟨some ⟨g, 0, none⟩, j, T, by simp [HL.out], by rw [List.length_map, HL.out]; exact HO8.out.1, HO8.out.2, rfl, HB.out⟩
end Go.Proofs.YteimpkjpoijhmaaDoor
