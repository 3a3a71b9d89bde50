/-
  The document's own GetRow of layer 1, and the walk of OctetGets: from any bytes, at any place, of any width, the call returns true; nothing that was there has changed.
-/
import Derived.Test.YtingcchamhbgkaaRefSig
import Derived.Test.YtingcchamhbgkaaPuts
namespace Go.Proofs.Ytingcchamhbgkaa
open Go.RowKit

theorem grE_inv {l : List Int} {p : Int} (hg : getE l p 2 = 0) : ∃ a : Nat, p = a ∧ a + 2 ≤ l.length ∧ getN l p 2 = a + 2 := by
  by_cases hp : p < 0 ∨ (l.length : Int) < p
  · rw [get_eq (by omega), (cut_arg hp).1] at hg; simp at hg
  · by_cases h2 : (l.length : Int) - p < 2
    · rw [get_short (by omega) (by omega) (by omega) h2] at hg; simp at hg
    · obtain ⟨a, rfl⟩ : ∃ a : Nat, p = a := ⟨p.toNat, by omega⟩
      exact ⟨a, rfl, by omega, by rw [getN, if_pos hg]⟩
theorem copy_m (A : Option Addr) (m c : Nat) (l : List Int) (w : World) (hr : Rd w A c l) (hm : l.length = m) (hl : l.length ≤ 140737488355328) :
    Calls Try.prog 9 #[.slice A m c] w fun e w' => ∃ A' c', e = .returned (.slice A' l.length c') ∧
      w'.ownsRow w.heap.size 5 1 (.slice A' l.length c') l.length (cel l) ∧ Below w.heap.size w w' := by
  subst hm; exact copy_any A c l w hr hl

set_option maxHeartbeats 1000000 in
theorem rgrow_any (A : Option Addr) (c : Nat) (l : List Int) (p : Int) (w : World) (hr : Rd w A c l) (hl : l.length ≤ 2000) :
    Calls Try.prog 21 #[.slice A l.length c, .int .i64 p] w fun e w' => ∃ A' c', e = .returned (.tuple #[.slice A' (grL l p).length c', .int .i64 (grN l p), .int .i64 (grE l p)]) ∧
      w'.ownsRow w.heap.size 5 1 (.slice A' (grL l p).length c') (grL l p).length (cel (grL l p)) ∧ Below w.heap.size w w' := by
  have hlen := hr.len
  have hlc := hr.le
  have hcap := hr.cap
  by_cases hg : getE l p 2 = 0
  · obtain ⟨a, rfl, ha, hN⟩ := grE_inv hg
    have hv0 : 0 ≤ getV l a 2 := by rw [getV, if_pos hg]; exact num_nonneg (byt_cut hr.byt _ _)
    obtain ⟨m, hm⟩ : ∃ m : Nat, getV l a 2 = m := ⟨(getV l a 2).toNat, by omega⟩
    have hE : grE l a = cutE l (a + 2) m := by rw [grE, if_pos hg, hm]
    have hGL : grL l a = cutL l (a + 2) m := by
      by_cases h0 : grE l a = 0
      · rw [grL, if_pos h0, hm]
      · rw [grL, if_neg h0, cutL, if_neg (by rw [← hE]; exact h0)]
    have hGN : grN l a = cutN l (a + 2) m := by
      by_cases h0 : grE l a = 0
      · rw [grN, if_pos h0, hm, cutN, if_pos (by rw [← hE]; exact h0)]
      · rw [grN, if_neg h0, cutN, if_neg (by rw [← hE]; exact h0)]
    rw [hE, hGL, hGN]
    by_cases h4 : (l.length : Int) - (a + 2) < m
    · obtain ⟨c1, c2, c3⟩ := cut_short (l := l) (p := a + 2) (n := m) (by omega) (by omega) h4
      rw [c1, c2, c3]
      have HM := Lib.hid hm
      have HG := Lib.hid hg
      have HN := Lib.hid hN
      clear c1 c2 c3 hE hGL hGN hm hg hN hv0
      go_enter Try.func21, Try.ntmps21
      go_wp2_with fail
      refine (rget_any A c l a 2 _ hr hl).mono ?_
      rintro e w' ⟨rfl, rfl⟩
      rw [HM.out, HG.out, HN.out]
      go_wp2_with fail
      go_ret3
      exact ⟨none, 0, rfl, World.ownsRow_nil _ _ _ _, Below.refl _ _⟩
    · obtain ⟨c1, c2, c3⟩ := cut_yes (l := l) (p := a + 2) (n := m) (by omega) (by omega) (by omega)
      have e2 : ((a : Int) + 2).toNat = a + 2 := by omega
      rw [e2, Int.toNat_natCast] at c2
      obtain ⟨A', c', hsl, hrs⟩ := slice_run A c l (a + 2) (a + 2 + m) (by omega) (by omega) hlc
      have hsub : a + 2 + m - (a + 2) = m := by omega
      rw [hsub] at hsl hrs
      have e3 : ((a + 2 : Nat) : Int) = (a : Int) + 2 := by omega
      have e4 : ((a + 2 + m : Nat) : Int) = (a : Int) + 2 + (m : Int) := by omega
      rw [e3, e4] at hsl
      have hlp : ((l.drop (a + 2)).take m).length = m := by simp; omega
      rw [c1, c2, c3, hlp]
      have HM := Lib.hid hm
      have HG := Lib.hid hg
      have HN := Lib.hid hN
      have HRS := Lib.hid (hrs _ hr)
      have HLP := Lib.hid hlp
      clear c1 c2 c3 hE hGL hGN hm hg hN hv0 hsub e2 e3 e4 hrs hlp
      go_enter Try.func21, Try.ntmps21
      go_wp2_with fail
      refine (rget_any A c l a 2 _ hr hl).mono ?_
      rintro e w' ⟨rfl, rfl⟩
      rw [HM.out, HG.out, HN.out]
      go_wp2_with fail
      refine (copy_m A' _ c' _ _ HRS.out HLP.out (by rw [HLP.out]; omega)).mono ?_
      rintro e w2 ⟨A2, c2, rfl, ho2, hb2⟩
      rw [HLP.out]
      rw [HLP.out] at ho2
      go_wp2_with fail
      go_ret3
      exact ⟨A2, c2, rfl, ho2, hb2⟩
  · have hE : grE l p = getE l p 2 := by rw [grE, if_neg hg]
    have hgr : ¬ grE l p = 0 := by rw [hE]; exact hg
    have hL : grL l p = [] := by rw [grL, if_neg hgr]
    have hN : grN l p = 0 := by rw [grN, if_neg hgr]
    rw [hE, hL, hN]
    have h1 : (getE l p 2 != 0) = true := by simpa using hg
    clear hE hL hN hgr hg
    go_enter Try.func21, Try.ntmps21
    go_wp2_with fail
    refine (rget_any A c l p 2 _ hr hl).mono ?_
    rintro e w' ⟨rfl, rfl⟩
    go_wp2_with fail
    go_ret3
    exact ⟨none, 0, rfl, World.ownsRow_nil _ _ _ _, Below.refl _ _⟩

theorem byt_grL {l : List Int} (h : Byt l) (p : Int) : Byt (grL l p) := by
  by_cases h0 : grE l p = 0
  · rw [grL, if_pos h0]; exact byt_cut h _ _
  · rw [grL, if_neg h0]; intro x hx; cases hx
theorem grL_le {l : List Int} (h : Byt l) (p : Int) : (grL l p).length ≤ 65535 := by
  by_cases h0 : grE l p = 0
  · rw [grL, if_pos h0]
    exact cutL_le _ _ _ 65535 (getV_2 h p)
  · rw [grL, if_neg h0]; simp

set_option linter.unusedSimpArgs false
set_option maxHeartbeats 2000000 in
set_option maxRecDepth 100000 in
theorem gets_walk (A : Option Addr) (c : Nat) (l : List Int) (p W : Int) (w : World) (hr : Rd w A c l) :
    Calls Try.prog 4 #[.slice A l.length c, .int .i64 p, .int .i64 W] w fun e w' => e = .returned (.bool true) ∧ Below w.heap.size w w' := by
  have hlen := hr.len
  by_cases hl : 2000 < l.length
  · have hl' : (2000 : Int) < (l.length : Int) := by omega
    clear hl
    go_enter Try.func4, Try.ntmps4
    go_wp2_with fail
    go_ret
    exact ⟨rfl, Below.refl _ _⟩
  have hl' : (l.length : Int) ≤ 2000 := by omega
  have hl2 : Hid (l.length ≤ 2000) := Nat.not_lt.1 hl
  clear hl
  go_enter Try.func4, Try.ntmps4
  go_wp2_with fail
  refine (copy_any A c l _ hr (by omega)).mono ?_
  rintro e w1 ⟨A1, c1, rfl, ho1, hb1⟩
  have HM1 := Lib.hid (own_rd ho1 hr.byt)
  have HB1 := Lib.hid hb1
  clear ho1 hb1
  go_wp2_with fail
  refine (get_m A1 _ c1 l p W _ HM1.out rfl).mono ?_
  rintro e w2 ⟨rfl, hb2⟩
  have HM2 := Lib.hid (HM1.out.keep hb2)
  have HB2 := Lib.hid (HB1.out.trans (hb2.mono HB1.out.size))
  clear hb2 HM1 HB1
  go_wp2_with fail
  refine (rget_any A c l p W _ (hr.keep HB2.out) hl2.out).mono ?_
  rintro e w3 ⟨rfl, rfl⟩
  go_wp2_with fail
  refine (sig_m A1 _ c1 l p _ HM2.out rfl).mono ?_
  rintro e w4 ⟨rfl, hb4⟩
  have HM4 := Lib.hid (HM2.out.keep hb4)
  have HB4 := Lib.hid (HB2.out.trans (hb4.mono HB2.out.size))
  clear hb4 HM2 HB2
  go_wp2_with fail
  refine (rgsig_any A c l p _ (hr.keep HB4.out) hl2.out).mono ?_
  rintro e w5 ⟨rfl, rfl⟩
  go_wp2_with fail
  refine (getrow_m A1 _ c1 l p _ HM4.out rfl).mono ?_
  rintro e w6 ⟨A6, c6, rfl, ho6, hb6⟩
  go_wp2_with fail
  refine (rgrow_any A c l p _ (hr.keep (HB4.out.trans (hb6.mono HB4.out.size))) hl2.out).mono ?_
  rintro e w7 ⟨A7, c7, rfl, ho7, hb7⟩
  have hb67 := hb6.trans (hb7.mono hb6.size)
  have HO7 := Lib.hid (own_below ho6 hb7 (Nat.le_refl _))
  have HN7 := Lib.hid hb67
  have k5 := rd_string (P := Try.prog) (own_rd HO7.out (byt_grL hr.byt p)) 22 9 5 Try.underlying22 Try.underlying5 Try.underlying9
  have k6 := rd_string (P := Try.prog) (own_rd ho7 (byt_grL hr.byt p)) 22 9 5 Try.underlying22 Try.underlying5 Try.underlying9
  clear ho6 ho7 hb6 hb7 hb67
  go_wp2_with fail
  clear k5 k6
  have hLle := grL_le hr.byt p
  have hbl := byt_grL hr.byt p
  go_loopw [27] (fun i wr => ∃ (j : Nat) (m : List Int), j ≤ (grL l p).length ∧ i = .int .i64 j ∧ Hid (Byt m ∧ m.length = (grL l p).length ∧ wr.ownsRow w4.heap.size 5 1 (.slice A6 (grL l p).length c6) (grL l p).length (cel m) ∧ Below w4.heap.size w4 wr))
    (fun i _ => (grL l p).length - (intOf i).toNat)
  case atStart => exact ⟨0, grL l p, Nat.zero_le _, rfl, hbl, rfl, HO7.out, HN7.out⟩
  case round =>
    obtain ⟨j, m, hj, rfl, HI⟩ := hrel
    by_cases hlt : j < (grL l p).length
    · obtain ⟨hbm, hm, hown, hbel⟩ := HI.out
      obtain ⟨g, rfl, hg⟩ := own_some hown (by omega)
      have hfz := hown.frozenAt j
      have hcell := hown.cellAt j (by omega)
      obtain ⟨x, hx⟩ : ∃ x, m[j]? = some x := ⟨_, List.getElem?_eq_getElem (by omega)⟩
      have hx' : (cel m)[j]? = some (.int .u8 x) := by simp [cel, hx]
      rw [hx'] at hcell
      have hxb : 0 ≤ x ∧ x < 256 := hbm x (List.mem_of_getElem? hx)
      have hst := hown.stored j (.int .u8 ((x + 1) % 256))
      rw [cel_set] at hst
      have HS := Lib.hid hst
      have HB := Lib.hid (hbel.setCell (p := ⟨g, j, none⟩) hg (.int .u8 ((x + 1) % 256)))
      have HY := Lib.hid (byt_set hbm j (x := (x + 1) % 256) (by omega))
      have HM := Lib.hid hm
      clear hx hx' hst hbel hown hm hbm HI
      go_wp2_with fail
      go_roundw
      case rel => exact ⟨j + 1, m.set j ((x + 1) % 256), by omega, by go_num, HY.out, by rw [List.length_set]; exact HM.out, HS.out.1, HB.out⟩
      case measure => simp [intOf]; omega
    · obtain ⟨_, _, _, hbel⟩ := HI.out
      have k7 := rd_string (P := Try.prog) (HM4.out.keep hbel) 22 9 5 Try.underlying22 Try.underlying5 Try.underlying9
      have k8 := rd_string (P := Try.prog) (hr.keep (HB4.out.trans (hbel.mono HB4.out.size))) 22 9 5 Try.underlying22 Try.underlying5 Try.underlying9
      have HF := Lib.hid (HB4.out.trans (hbel.mono HB4.out.size))
      obtain rfl : j = (grL l p).length := by omega
      clear hbel HI
      go_wp2_with fail
      go_ret
      exact ⟨rfl, HF.out⟩
end Go.Proofs.Ytingcchamhbgkaa
