/-
  The reference's Loops.
-/
import Derived.Test.YtfchdggefedgoaaFal
import Derived.Test.YtfchdggefedgoaaFne
namespace Go.Proofs.Ytfchdggefedgoaa
open Go.RowKit
set_option maxRecDepth 100000
set_option linter.unusedSimpArgs false
set_option linter.unusedVariables false

theorem flE9_40 {l : List Ins} (h : codM l = false) : flE9 l = 40 ∧ flL9 l = [] := by
  have e : flE9 l = 40 := by rw [flE9, h]; rfl
  exact ⟨e, by rw [flL9, e]; rfl⟩
theorem flE9_90 {l : List Ins} (hc : codM l = true) (h : ¬ (okL9 l = true ∧ ns9 (lpU9 l l.length) l.length = true ∧ (la9 l = 31 ∨ la9 l = 32) ∧ (List.range l.length).all (jp9 l (lpU9 l l.length)) = true)) : flE9 l = 90 ∧ flL9 l = [] := by
  have e : flE9 l = 90 := by rw [flE9, if_pos hc, if_neg h]
  exact ⟨e, by rw [flL9, e]; rfl⟩
theorem flE9_ok {l : List Ins} (hc : codM l = true) (h : okL9 l = true ∧ ns9 (lpU9 l l.length) l.length = true ∧ (la9 l = 31 ∨ la9 l = 32) ∧ (List.range l.length).all (jp9 l (lpU9 l l.length)) = true) : flE9 l = 0 ∧ flL9 l = lpU9 l l.length := by
  have e : flE9 l = 0 := by rw [flE9, if_pos hc, if_pos h]
  exact ⟨e, by rw [flL9, if_pos e]⟩
theorem Ri.at9 {w : World} {A : Option Addr} {c : Nat} {L : List Ins} (h : Ri w A c L) {i : Nat} {o a z : Int} (hx : L[i]? = some (o, a, z)) : ∃ ad : Addr, A = some ad ∧ w.cell? (ad.add (i * 3)) = some (.int .u8 o) ∧ w.cell? ⟨(ad.add (i * 3)).block, (ad.add (i * 3)).off + 1, none⟩ = some (.int .i64 a) ∧ w.cell? ⟨(ad.add (i * 3)).block, (ad.add (i * 3)).off + 2, none⟩ = some (.int .i64 z) := by
  obtain ⟨hi, he⟩ := List.getElem?_eq_some_iff.1 hx
  obtain ⟨ad, hA, h1, h2, h3⟩ := h.at_ hi
  rw [he] at h1 h2 h3
  exact ⟨ad, hA, h1, h2, h3⟩
theorem jp9_no {l : List Ins} {p : Nat} (hp : p < l.length) {out : List Lp} (h : jp9 l out p = false) : ¬ (List.range l.length).all (jp9 l out) = true := by
  intro hb
  rw [List.all_eq_true] at hb
  rw [hb p (List.mem_range.2 hp)] at h
  cases h
theorem lpU9_len (l : List Ins) : ∀ k, (lpU9 l k).length ≤ k * l.length
  | 0 => by simp [lpU9]
  | k + 1 => by
    rw [lpU9_succ, List.length_append, Nat.succ_mul]
    refine Nat.add_le_add (lpU9_len l k) ?_
    rw [lp19]
    split
    · rw [lpk9_len]; exact agk9_le _ _ _
    · simp
set_option maxHeartbeats 16000000 in
theorem r9loops_v (A : Option Addr) (c m : Nat) (L : List Ins) (w : World) (hr : Ri w A c L) (hm : L.length = m) :
    Calls Try.prog 9 #[.slice A m c] w fun r w' => ∃ A' c', r = .returned (.tuple #[.slice A' (flL9 L).length c', .int .i64 (flE9 L)]) ∧ w'.ownsRow w.heap.size 41 3 (.slice A' (flL9 L).length c') (flL9 L).length (cej (flL9 L)) ∧ Below w.heap.size w w' := by
  have HLm := Lib.hid hm
  have HR := Lib.hid hr
  have hml : m ≤ 9223372036854775807 := by have := hr.len; omega
  clear hr hm
  obtain ⟨E, hE⟩ : ∃ e, flE9 L = e := ⟨_, rfl⟩
  obtain ⟨FL, hFL⟩ : ∃ x, flL9 L = x := ⟨_, rfl⟩
  have HEF := Lib.hid (show flE9 L = E ∧ flL9 L = FL from ⟨hE, hFL⟩)
  rw [hE, hFL]
  clear hE hFL
  by_cases hm1 : m < 1
  · have HE : Hid (E = 40 ∧ FL = []) := Lib.hid (by
      rw [← HEF.out.1, ← HEF.out.2]
      exact flE9_40 (by rw [codM, HLm.out, decide_eq_false (by omega)]; rfl))
    go_enter Try.func9, Try.ntmps9
    go_wp2_with fail
    go_ret2
    exact ⟨none, 0, by rw [HE.out.1, HE.out.2]; rfl, by rw [HE.out.2]; exact World.ownsRow_nil _ _ _ _, Below.refl _ _⟩
  by_cases hm2 : 200 < m
  · have HE : Hid (E = 40 ∧ FL = []) := Lib.hid (by
      rw [← HEF.out.1, ← HEF.out.2]
      exact flE9_40 (by rw [codM, HLm.out, decide_eq_false (p := m ≤ 200) (by omega), Bool.and_false]; rfl))
    go_enter Try.func9, Try.ntmps9
    go_wp2_with fail
    go_ret2
    exact ⟨none, 0, by rw [HE.out.1, HE.out.2]; rfl, by rw [HE.out.2]; exact World.ownsRow_nil _ _ _ _, Below.refl _ _⟩
  go_enter Try.func9, Try.ntmps9
  go_wp2_with fail
  go_loopw [4] (fun iv wr => ∃ i : Nat, i ≤ m ∧ iv = .int .i64 i ∧ Hid ((L.take i).all inM = true) ∧ Hid (Below w.heap.size w wr)) (fun iv _ => m - (intOf iv).toNat)
  case atStart => exact ⟨0, by omega, rfl, Lib.hid rfl, Lib.hid (Below.refl _ _)⟩
  case round =>
    obtain ⟨i, hi, rfl, HI, HB⟩ := hrel
    by_cases h1 : i < m
    · obtain ⟨⟨o, a, z⟩, hx⟩ : ∃ x, L[i]? = some x := ⟨_, List.getElem?_eq_getElem (by rw [HLm.out]; exact h1)⟩
      obtain ⟨ad, hA, k1, k2, k3⟩ := (HR.out.keep HB.out).at9 hx
      subst hA
      have HX := Lib.hid hx
      clear hx
      cases hv : inM (o, a, z) with
      | false =>
        have HE : Hid (E = 40 ∧ FL = []) := Lib.hid (by
          rw [← HEF.out.1, ← HEF.out.2]
          refine flE9_40 ?_
          have : L.all inM = false := List.all_eq_false.2 ⟨_, List.mem_of_getElem? HX.out, by rw [hv]; simp⟩
          rw [codM, this, Bool.and_false])
        have HM := fun w => Lib.hid (r4may_v o a z _ w hv)
        clear hv
        go_wp2_with fail
        refine (HM _).out.mono ?_
        rintro r w2 ⟨rfl, hb⟩
        have HB2 := Lib.hid (HB.out.trans (hb.mono HB.out.size))
        clear hb k1 k2 k3
        go_wp2_with fail
        go_ret2
        exact ⟨none, 0, by rw [HE.out.1, HE.out.2]; rfl, by rw [HE.out.2]; exact World.ownsRow_nil _ _ _ _, HB2.out⟩
      | true =>
        have HI2 : Hid ((L.take (i + 1)).all inM = true) := Lib.hid (by rw [List.take_add_one, HX.out, List.all_append, HI.out]; simp [hv])
        have HM := fun w => Lib.hid (r4may_v o a z _ w hv)
        clear hv
        go_wp2_with fail
        refine (HM _).out.mono ?_
        rintro r w2 ⟨rfl, hb⟩
        have HB2 := Lib.hid (HB.out.trans (hb.mono HB.out.size))
        clear hb k1 k2 k3
        go_wp2_with fail
        go_roundw
        case rel => exact ⟨i + 1, by omega, by go_num, HI2, HB2⟩
        case measure => simp [intOf]; omega
    · obtain rfl : m = i := by omega
      have HCM : Hid (codM L = true) := Lib.hid (by
        have h := HI.out
        rw [List.take_of_length_le (by rw [HLm.out]; exact Nat.le_refl _)] at h
        rw [codM, h, HLm.out, decide_eq_true (by omega), decide_eq_true (by omega)]; rfl)
      go_wp2_with fail
      refine (all9_v A c m L _ (HR.out.keep HB.out) HLm.out (by omega) (fun x hx => inM_nn ((codM_all HCM.out).2.2 x hx))).mono ?_
      rintro r w2 ⟨A1, c1, n1, rfl, ho, hb⟩
      have HO : Hid (okL9 L = true → n1 = (lpU9 L m).length ∧ w2.ownsRow w.heap.size 41 3 (.slice A1 n1 c1) n1 (cej (lpU9 L m))) := Lib.hid fun h => ⟨(ho h).1, own_below (ho h).2 (Below.refl _ _) HB.out.size⟩
      have HB2 := Lib.hid (HB.out.trans (hb.mono HB.out.size))
      clear ho hb HI HB
      obtain ⟨q, hq⟩ : ∃ q : Nat, (m : Int) - 1 = q := ⟨m - 1, by omega⟩
      have hqm : q < m := by omega
      obtain ⟨⟨o, a, z⟩, hx⟩ : ∃ x, L[q]? = some x := ⟨_, List.getElem?_eq_getElem (by rw [HLm.out]; exact hqm)⟩
      obtain ⟨ad, hA, k1, -, -⟩ := (HR.out.keep HB2.out).at9 hx
      have HLA : Hid (la9 L = o) := Lib.hid (by rw [la9, HLm.out, show m - 1 = q by omega]; simp [iO9, hx])
      subst hA
      clear hx
      cases hok : okL9 L with
      | false =>
        have HE : Hid (E = 90 ∧ FL = []) := Lib.hid (by
          rw [← HEF.out.1, ← HEF.out.2]
          exact flE9_90 HCM.out (fun h => by rw [hok] at h; cases h.1))
        clear hok
        go_wp2_with fail
        go_ret2
        exact ⟨none, 0, by rw [HE.out.1, HE.out.2]; rfl, by rw [HE.out.2]; exact World.ownsRow_nil _ _ _ _, HB2.out⟩
      | true =>
        obtain ⟨hn1, ho1⟩ := HO.out hok
        have HOK := Lib.hid hok
        clear hok HO
        have HOW := Lib.hid ho1
        have RJ := Lib.hid (Rj.of_own ho1 (fun _ _ => trivial)).1
        have HN1 := Lib.hid hn1
        have hn40 : n1 ≤ 40000 := by
          have h := lpU9_len L m
          rw [← hn1, HLm.out] at h
          have h2 : m * m ≤ 200 * 200 := Nat.mul_le_mul (by omega) (by omega)
          omega
        have HNE := fun w' (hb : Below w2.heap.size w2 w') => Lib.hid (nested9_v A1 c1 n1 m (lpU9 L m) w' (RJ.out.keep hb) hn1.symm hn40 (by omega))
        clear ho1 hn1
        cases hns : ns9 (lpU9 L m) m with
        | false =>
          have HE : Hid (E = 90 ∧ FL = []) := Lib.hid (by
            rw [← HEF.out.1, ← HEF.out.2]
            exact flE9_90 HCM.out (fun h => by have := h.2.1; rw [HLm.out, hns] at this; cases this))
          rw [hns] at HNE
          clear hns
          go_wp2_with fail
          refine (HNE _ (Below.refl _ _)).out.mono ?_
          rintro r w3 ⟨rfl, hb⟩
          have HB3 := Lib.hid (HB2.out.trans (hb.mono HB2.out.size))
          clear hb k1
          go_wp2_with fail
          go_ret2
          exact ⟨none, 0, by rw [HE.out.1, HE.out.2]; rfl, by rw [HE.out.2]; exact World.ownsRow_nil _ _ _ _, HB3.out⟩
        | true =>
          have HNS := Lib.hid hns
          rw [hns] at HNE
          clear hns
          by_cases hla : o = 31 ∨ o = 32
          · have HLL := Lib.hid hla
            rcases hla with rfl | rfl
            all_goals
              go_wp2_with fail
              refine (HNE _ (Below.refl _ _)).out.mono ?_
              rintro r w3 ⟨rfl, hb⟩
              have HB : Hid (Below w.heap.size w w3) := Lib.hid (HB2.out.trans (hb.mono HB2.out.size))
              have HOW3 : Hid (w3.ownsRow w.heap.size 41 3 (.slice A1 n1 c1) n1 (cej (lpU9 L m))) := Lib.hid (own_below HOW.out hb (Nat.le_refl _))
              clear hb k1 HNE HB2 HOW RJ
              go_wp2_with fail
              go_loopw [8] (fun pv wq => ∃ p : Nat, p ≤ m ∧ pv = .int .i64 p ∧ Hid ((List.range p).all (jp9 L (lpU9 L m)) = true) ∧ Hid (wq.ownsRow w.heap.size 41 3 (.slice A1 n1 c1) n1 (cej (lpU9 L m))) ∧ Hid (Below w.heap.size w wq)) (fun pv _ => m - (intOf pv).toNat)
              case atStart => exact ⟨0, by omega, rfl, Lib.hid rfl, HOW3, HB⟩
              case round =>
                clear HOW3 HB
                obtain ⟨p, hpm, rfl, HP, HOW, HB⟩ := hrel
                by_cases hp : p < m
                · obtain ⟨⟨o, b, z0⟩, hx⟩ : ∃ x, L[p]? = some x := ⟨_, List.getElem?_eq_getElem (by rw [HLm.out]; exact hp)⟩
                  have HXO : Hid (iO9 L p = o ∧ iA9 L p = b) := Lib.hid ⟨by simp [iO9, hx], by simp [iA9, hx]⟩
                  have HX0 := Lib.hid hx
                  obtain ⟨ad', hA, k1, k2, -⟩ := (HR.out.keep HB.out).at9 hx
                  injection hA with hA
                  subst hA
                  clear hx
                  by_cases hj : o = 26 ∨ o = 27
                  · have HJ : Hid (jp9 L (lpU9 L m) p = (decide ((p : Int) < b) && (decide (b < m) && (lpU9 L m).all fun x => !(wi9 x b.toNat && !wi9 x p)))) := Lib.hid (by
                      rw [jp9, HXO.out.1, HXO.out.2, HLm.out, if_pos hj])
                    have hj := Lib.hid hj
                    by_cases hbp : b ≤ p
                    · rcases hj.out with rfl | rfl
                      all_goals
                        have HE : Hid (E = 90 ∧ FL = []) := Lib.hid (by
                          rw [← HEF.out.1, ← HEF.out.2]
                          refine flE9_90 HCM.out (fun h => jp9_no (by rw [HLm.out]; exact hp) (out := lpU9 L m) ?_ (by have := h.2.2.2; rwa [HLm.out] at this ⊢))
                          rw [HJ.out, decide_eq_false (by omega), Bool.false_and])
                        go_wp2_with fail
                        go_ret2
                        exact ⟨none, 0, by rw [HE.out.1, HE.out.2]; rfl, by rw [HE.out.2]; exact World.ownsRow_nil _ _ _ _, HB.out⟩
                    · by_cases hbm : (m : Int) ≤ b
                      · rcases hj.out with rfl | rfl
                        all_goals
                          have HE : Hid (E = 90 ∧ FL = []) := Lib.hid (by
                            rw [← HEF.out.1, ← HEF.out.2]
                            refine flE9_90 HCM.out (fun h => jp9_no (by rw [HLm.out]; exact hp) (out := lpU9 L m) ?_ (by have := h.2.2.2; rwa [HLm.out] at this ⊢))
                            rw [HJ.out, decide_eq_false (p := b < m) (by omega), Bool.false_and, Bool.and_false])
                          go_wp2_with fail
                          go_ret2
                          exact ⟨none, 0, by rw [HE.out.1, HE.out.2]; rfl, by rw [HE.out.2]; exact World.ownsRow_nil _ _ _ _, HB.out⟩
                      · obtain ⟨b, rfl⟩ : ∃ b' : Nat, b = b' := ⟨b.toNat, by omega⟩
                        rw [Int.toNat_natCast] at HJ
                        have hbm2 : b < m := by omega
                        have hpb2 : p < b := by omega
                        clear hbp hbm
                        rcases hj.out with rfl | rfl
                        all_goals
                          go_wp2_with fail
                          go_loopw [9] (fun iv wq => ∃ i : Nat, i ≤ n1 ∧ iv = .int .i64 i ∧ Hid (((lpU9 L m).take i).all (fun x => !(wi9 x b && !wi9 x p)) = true) ∧ Hid (wq.ownsRow w.heap.size 41 3 (.slice A1 n1 c1) n1 (cej (lpU9 L m))) ∧ Hid (Below w.heap.size w wq)) (fun iv _ => n1 - (intOf iv).toNat)
                          case atStart => exact ⟨0, by omega, rfl, Lib.hid rfl, HOW, HB⟩
                          case round =>
                            clear HOW HB k1 k2
                            obtain ⟨i, hi, rfl, HI, HOW, HB⟩ := hrel
                            by_cases h1 : i < n1
                            · obtain ⟨⟨f, t, z⟩, hx⟩ : ∃ x, (lpU9 L m)[i]? = some x := ⟨_, List.getElem?_eq_getElem (by rw [← HN1.out]; exact h1)⟩
                              have HBD : Hid (Below w.heap.size w wr.drew) := Lib.hid (below_draws HB.out 1)
                              have HOD : Hid (wr.drew.ownsRow w.heap.size 41 3 (.slice A1 n1 c1) n1 (cej (lpU9 L m))) := Lib.hid (own_below HOW.out (below_draws (Below.refl _ _) 1) (Nat.le_refl _))
                              obtain ⟨ae, hA, t1⟩ := (Rj.of_own HOD.out (fun _ _ => trivial)).1.at9 hx
                              obtain ⟨ad', hA2, -, k2, -⟩ := (HR.out.keep HBD.out).at9 HX0.out
                              injection hA2 with hA2
                              subst hA2
                              subst hA
                              have SR : Hid (Below w.heap.size w wr.drew ∧ wr.drew.ownsRow w.heap.size 41 3 (.slice (some ae) n1 c1) n1 (cej (lpU9 L m)) ∧ At9 wr.drew ae i f t z ∧ wr.drew.cell? ⟨(ad.add (p * 3)).block, (ad.add (p * 3)).off + 1, none⟩ = some (.int .i64 b)) := Lib.hid ⟨HBD.out, HOD.out, t1, k2⟩
                              have HX := Lib.hid hx
                              have HC1 := fun w => Lib.hid (within9_v f t b z w)
                              have HC2 := fun w => Lib.hid (within9_v f t p z w)
                              have HNP0 : Hid ((!(wi9 (f, t, z) b && !wi9 (f, t, z) p)) = !((decide (f < b) && decide (b ≤ t)) && !(decide (f < p) && decide (p ≤ t)))) := Lib.hid rfl
                              generalize (decide (f < b) && decide (b ≤ t)) = b1 at HC1 HNP0
                              generalize (decide (f < p) && decide (p ≤ t)) = b2 at HC2 HNP0
                              clear hx t1 k2
                              cases b1 with
                              | false =>
                                have HNP : Hid ((!(wi9 (f, t, z) b && !wi9 (f, t, z) p)) = true) := Lib.hid (by rw [HNP0.out]; rfl)
                                go_upto_region 21 with (fail)
                                refine wp_region_held_drew (S := fun w' => Hid (Below w.heap.size w w' ∧ w'.ownsRow w.heap.size 41 3 (.slice (some ae) n1 c1) n1 (cej (lpU9 L m)) ∧ At9 w' ae i f t z ∧ w'.cell? ⟨(ad.add (p * 3)).block, (ad.add (p * 3)).off + 1, none⟩ = some (.int .i64 b))) (by kernel_rfl) (SR) (fun hHeld => ?_)
                                refine wpAnyH_take (i := 0) (v := ?_) rfl (by kernel_rfl) (by kernel_rfl) (by kernel_rfl) (fun _ _ _ h => h) (Or.inl ⟨by rfl, ?_⟩) (by assumption) ?_
                                rotate_left 1
                                · intro w _; go_simp; try with_reducible rfl
                                try simp only [Act.put, List.getElem_toArray, List.getElem_cons_zero, List.getElem_cons_succ, List.setIfInBounds_toArray, List.set_cons_zero, List.set_cons_succ]
                                refine wpAnyH_take (i := 1) (v := ?_) rfl (by kernel_rfl) (by kernel_rfl) (by kernel_rfl) (fun _ _ _ h => h) (Or.inl ⟨by rfl, ?_⟩) (by assumption) ?_
                                rotate_left 1
                                · intro w _; go_simp; try with_reducible rfl
                                try simp only [Act.put, List.getElem_toArray, List.getElem_cons_zero, List.getElem_cons_succ, List.setIfInBounds_toArray, List.set_cons_zero, List.set_cons_succ]
                                refine wpAnyH_take (i := 2) (v := ?_) rfl (by kernel_rfl) (by kernel_rfl) (by kernel_rfl) (fun _ _ _ h => h) (Or.inl ⟨by rfl, ?_⟩) (by assumption) ?_
                                rotate_left 1
                                · intro w _; go_simp; try with_reducible rfl
                                try simp only [Act.put, List.getElem_toArray, List.getElem_cons_zero, List.getElem_cons_succ, List.setIfInBounds_toArray, List.set_cons_zero, List.set_cons_succ]
                                refine wpAnyH_take (i := 3) (v := ?_) rfl (by kernel_rfl) (by kernel_rfl) (by kernel_rfl) (fun _ _ _ h => h) (Or.inl ⟨by rfl, ?_⟩) (by assumption) ?_
                                rotate_left 1
                                · intro w hSw; (try dsimp only at hSw); obtain ⟨-, -, ⟨s0, s1, s2⟩, s3⟩ := hSw.out; go_simp; try with_reducible rfl
                                try simp only [Act.put, List.getElem_toArray, List.getElem_cons_zero, List.getElem_cons_succ, List.setIfInBounds_toArray, List.set_cons_zero, List.set_cons_succ]
                                refine wpAnyH_take (i := 4) (v := ?_) rfl (by kernel_rfl) (by kernel_rfl) (by kernel_rfl) (fun _ _ _ h => h) (Or.inl ⟨by rfl, ?_⟩) (by assumption) ?_
                                rotate_left 1
                                · intro w _; go_simp; try with_reducible rfl
                                try simp only [Act.put, List.getElem_toArray, List.getElem_cons_zero, List.getElem_cons_succ, List.setIfInBounds_toArray, List.set_cons_zero, List.set_cons_succ]
                                refine wpAnyH_take (i := 5) (v := ?_) rfl (by kernel_rfl) (by kernel_rfl) (by kernel_rfl) (fun _ _ _ h => h) (Or.inl ⟨by rfl, ?_⟩) (by assumption) ?_
                                rotate_left 1
                                · intro w _; go_simp; try with_reducible rfl
                                try simp only [Act.put, List.getElem_toArray, List.getElem_cons_zero, List.getElem_cons_succ, List.setIfInBounds_toArray, List.set_cons_zero, List.set_cons_succ]
                                refine wpAnyH_take (i := 6) (v := ?_) rfl (by kernel_rfl) (by kernel_rfl) (by kernel_rfl) (fun _ _ _ h => h) (Or.inl ⟨by rfl, ?_⟩) (by assumption) ?_
                                rotate_left 1
                                · intro w _; go_simp; try with_reducible rfl
                                try simp only [Act.put, List.getElem_toArray, List.getElem_cons_zero, List.getElem_cons_succ, List.setIfInBounds_toArray, List.set_cons_zero, List.set_cons_succ]
                                refine wpAnyH_take (i := 7) (v := ?_) rfl (by kernel_rfl) (by kernel_rfl) (by kernel_rfl) (fun _ _ _ h => h) (Or.inl ⟨by rfl, ?_⟩) (by assumption) ?_
                                rotate_left 1
                                · intro w _; go_simp; try with_reducible rfl
                                try simp only [Act.put, List.getElem_toArray, List.getElem_cons_zero, List.getElem_cons_succ, List.setIfInBounds_toArray, List.set_cons_zero, List.set_cons_succ]
                                refine wpAnyH_take (i := 8) (v := ?_) rfl (by kernel_rfl) (by kernel_rfl) (by kernel_rfl) (fun _ _ _ h => h) (Or.inl ⟨by rfl, ?_⟩) (by assumption) ?_
                                rotate_left 1
                                · intro w hSw; (try dsimp only at hSw); obtain ⟨-, -, ⟨s0, s1, s2⟩, s3⟩ := hSw.out; go_simp; try with_reducible rfl
                                try simp only [Act.put, List.getElem_toArray, List.getElem_cons_zero, List.getElem_cons_succ, List.setIfInBounds_toArray, List.set_cons_zero, List.set_cons_succ]
                                refine wpAnyH_ready (rs := [9]) (by kernel_rfl) (by simp) ?_
                                refine AllReadyH.cons rfl (fun K hK => ?_) AllReadyH.nil
                                go_simp
                                refine (HC1 _).out.mono ?_
                                rintro r w7 ⟨rfl, hb⟩
                                go_wp2_with fail
                                refine hK.out _ _ (Lib.hid ⟨hHeld.out.1.trans (hb.mono hHeld.out.1.size), own_below hHeld.out.2.1 hb (Nat.le_refl _), hHeld.out.2.2.1.keep hb, (hb.cell (cell_lt hHeld.out.2.2.2)).trans hHeld.out.2.2.2⟩) (fun hHeld => ?_)
                                clear hK K
                                try simp only [Act.put, List.getElem_toArray, List.getElem_cons_zero, List.getElem_cons_succ, List.setIfInBounds_toArray, List.set_cons_zero, List.set_cons_succ]
                                refine wpAnyH_take (i := 10) (v := ?_) rfl (by kernel_rfl) (by kernel_rfl) (by kernel_rfl) (fun _ _ _ h => h) (Or.inl ⟨by rfl, ?_⟩) (by assumption) ?_
                                rotate_left 1
                                · intro w _; go_simp; try with_reducible rfl
                                try simp only [Act.put, List.getElem_toArray, List.getElem_cons_zero, List.getElem_cons_succ, List.setIfInBounds_toArray, List.set_cons_zero, List.set_cons_succ]
                                refine wpAnyH_take (i := 11) (v := undef) rfl (by kernel_rfl) (by kernel_rfl) (by kernel_rfl) (fun _ _ _ h => h) (Or.inr ⟨by rfl, rfl⟩) (by assumption) ?_
                                try simp only [Act.put, List.getElem_toArray, List.getElem_cons_zero, List.getElem_cons_succ, List.setIfInBounds_toArray, List.set_cons_zero, List.set_cons_succ]
                                refine wpAnyH_take (i := 12) (v := undef) rfl (by kernel_rfl) (by kernel_rfl) (by kernel_rfl) (fun _ _ _ h => h) (Or.inr ⟨by rfl, rfl⟩) (by assumption) ?_
                                try simp only [Act.put, List.getElem_toArray, List.getElem_cons_zero, List.getElem_cons_succ, List.setIfInBounds_toArray, List.set_cons_zero, List.set_cons_succ]
                                refine wpAnyH_take (i := 13) (v := undef) rfl (by kernel_rfl) (by kernel_rfl) (by kernel_rfl) (fun _ _ _ h => h) (Or.inr ⟨by rfl, rfl⟩) (by assumption) ?_
                                try simp only [Act.put, List.getElem_toArray, List.getElem_cons_zero, List.getElem_cons_succ, List.setIfInBounds_toArray, List.set_cons_zero, List.set_cons_succ]
                                refine wpAnyH_take (i := 14) (v := undef) rfl (by kernel_rfl) (by kernel_rfl) (by kernel_rfl) (fun _ _ _ h => h) (Or.inr ⟨by rfl, rfl⟩) (by assumption) ?_
                                try simp only [Act.put, List.getElem_toArray, List.getElem_cons_zero, List.getElem_cons_succ, List.setIfInBounds_toArray, List.set_cons_zero, List.set_cons_succ]
                                refine wpAnyH_take (i := 15) (v := undef) rfl (by kernel_rfl) (by kernel_rfl) (by kernel_rfl) (fun _ _ _ h => h) (Or.inr ⟨by rfl, rfl⟩) (by assumption) ?_
                                try simp only [Act.put, List.getElem_toArray, List.getElem_cons_zero, List.getElem_cons_succ, List.setIfInBounds_toArray, List.set_cons_zero, List.set_cons_succ]
                                refine wpAnyH_take (i := 16) (v := undef) rfl (by kernel_rfl) (by kernel_rfl) (by kernel_rfl) (fun _ _ _ h => h) (Or.inr ⟨by rfl, rfl⟩) (by assumption) ?_
                                try simp only [Act.put, List.getElem_toArray, List.getElem_cons_zero, List.getElem_cons_succ, List.setIfInBounds_toArray, List.set_cons_zero, List.set_cons_succ]
                                refine wpAnyH_take (i := 17) (v := undef) rfl (by kernel_rfl) (by kernel_rfl) (by kernel_rfl) (fun _ _ _ h => h) (Or.inr ⟨by rfl, rfl⟩) (by assumption) ?_
                                try simp only [Act.put, List.getElem_toArray, List.getElem_cons_zero, List.getElem_cons_succ, List.setIfInBounds_toArray, List.set_cons_zero, List.set_cons_succ]
                                refine wpAnyH_take (i := 18) (v := ?_) rfl (by kernel_rfl) (by kernel_rfl) (by kernel_rfl) (fun _ _ _ h => h) (Or.inl ⟨by rfl, ?_⟩) (by assumption) ?_
                                rotate_left 1
                                · intro w _; go_simp; try with_reducible rfl
                                try simp only [Act.put, List.getElem_toArray, List.getElem_cons_zero, List.getElem_cons_succ, List.setIfInBounds_toArray, List.set_cons_zero, List.set_cons_succ]
                                refine wpAnyH_done (by kernel_rfl) ?_ _
                                have HBE := Lib.hid hHeld.out.1
                                have HOE := Lib.hid hHeld.out.2.1
                                clear hHeld
                                go_wp2_with fail
                                go_roundw
                                case rel => exact ⟨i + 1, by omega, by go_num, Lib.hid (by rw [List.take_add_one, HX.out, List.all_append, HI.out]; simp only [Option.toList_some, List.all_cons, List.all_nil, Bool.and_true, Bool.true_and]; exact HNP.out), HOE, HBE⟩
                                case measure => simp [intOf]; omega
                              | true =>
                                cases b2 with
                                | true =>
                                  have HNP : Hid ((!(wi9 (f, t, z) b && !wi9 (f, t, z) p)) = true) := Lib.hid (by rw [HNP0.out]; rfl)
                                  go_upto_region 21 with (fail)
                                  refine wp_region_held_drew (S := fun w' => Hid (Below w.heap.size w w' ∧ w'.ownsRow w.heap.size 41 3 (.slice (some ae) n1 c1) n1 (cej (lpU9 L m)) ∧ At9 w' ae i f t z ∧ w'.cell? ⟨(ad.add (p * 3)).block, (ad.add (p * 3)).off + 1, none⟩ = some (.int .i64 b))) (by kernel_rfl) (SR) (fun hHeld => ?_)
                                  refine wpAnyH_take (i := 0) (v := ?_) rfl (by kernel_rfl) (by kernel_rfl) (by kernel_rfl) (fun _ _ _ h => h) (Or.inl ⟨by rfl, ?_⟩) (by assumption) ?_
                                  rotate_left 1
                                  · intro w _; go_simp; try with_reducible rfl
                                  try simp only [Act.put, List.getElem_toArray, List.getElem_cons_zero, List.getElem_cons_succ, List.setIfInBounds_toArray, List.set_cons_zero, List.set_cons_succ]
                                  refine wpAnyH_take (i := 1) (v := ?_) rfl (by kernel_rfl) (by kernel_rfl) (by kernel_rfl) (fun _ _ _ h => h) (Or.inl ⟨by rfl, ?_⟩) (by assumption) ?_
                                  rotate_left 1
                                  · intro w _; go_simp; try with_reducible rfl
                                  try simp only [Act.put, List.getElem_toArray, List.getElem_cons_zero, List.getElem_cons_succ, List.setIfInBounds_toArray, List.set_cons_zero, List.set_cons_succ]
                                  refine wpAnyH_take (i := 2) (v := ?_) rfl (by kernel_rfl) (by kernel_rfl) (by kernel_rfl) (fun _ _ _ h => h) (Or.inl ⟨by rfl, ?_⟩) (by assumption) ?_
                                  rotate_left 1
                                  · intro w _; go_simp; try with_reducible rfl
                                  try simp only [Act.put, List.getElem_toArray, List.getElem_cons_zero, List.getElem_cons_succ, List.setIfInBounds_toArray, List.set_cons_zero, List.set_cons_succ]
                                  refine wpAnyH_take (i := 3) (v := ?_) rfl (by kernel_rfl) (by kernel_rfl) (by kernel_rfl) (fun _ _ _ h => h) (Or.inl ⟨by rfl, ?_⟩) (by assumption) ?_
                                  rotate_left 1
                                  · intro w hSw; (try dsimp only at hSw); obtain ⟨-, -, ⟨s0, s1, s2⟩, s3⟩ := hSw.out; go_simp; try with_reducible rfl
                                  try simp only [Act.put, List.getElem_toArray, List.getElem_cons_zero, List.getElem_cons_succ, List.setIfInBounds_toArray, List.set_cons_zero, List.set_cons_succ]
                                  refine wpAnyH_take (i := 4) (v := ?_) rfl (by kernel_rfl) (by kernel_rfl) (by kernel_rfl) (fun _ _ _ h => h) (Or.inl ⟨by rfl, ?_⟩) (by assumption) ?_
                                  rotate_left 1
                                  · intro w _; go_simp; try with_reducible rfl
                                  try simp only [Act.put, List.getElem_toArray, List.getElem_cons_zero, List.getElem_cons_succ, List.setIfInBounds_toArray, List.set_cons_zero, List.set_cons_succ]
                                  refine wpAnyH_take (i := 5) (v := ?_) rfl (by kernel_rfl) (by kernel_rfl) (by kernel_rfl) (fun _ _ _ h => h) (Or.inl ⟨by rfl, ?_⟩) (by assumption) ?_
                                  rotate_left 1
                                  · intro w _; go_simp; try with_reducible rfl
                                  try simp only [Act.put, List.getElem_toArray, List.getElem_cons_zero, List.getElem_cons_succ, List.setIfInBounds_toArray, List.set_cons_zero, List.set_cons_succ]
                                  refine wpAnyH_take (i := 6) (v := ?_) rfl (by kernel_rfl) (by kernel_rfl) (by kernel_rfl) (fun _ _ _ h => h) (Or.inl ⟨by rfl, ?_⟩) (by assumption) ?_
                                  rotate_left 1
                                  · intro w _; go_simp; try with_reducible rfl
                                  try simp only [Act.put, List.getElem_toArray, List.getElem_cons_zero, List.getElem_cons_succ, List.setIfInBounds_toArray, List.set_cons_zero, List.set_cons_succ]
                                  refine wpAnyH_take (i := 7) (v := ?_) rfl (by kernel_rfl) (by kernel_rfl) (by kernel_rfl) (fun _ _ _ h => h) (Or.inl ⟨by rfl, ?_⟩) (by assumption) ?_
                                  rotate_left 1
                                  · intro w _; go_simp; try with_reducible rfl
                                  try simp only [Act.put, List.getElem_toArray, List.getElem_cons_zero, List.getElem_cons_succ, List.setIfInBounds_toArray, List.set_cons_zero, List.set_cons_succ]
                                  refine wpAnyH_take (i := 8) (v := ?_) rfl (by kernel_rfl) (by kernel_rfl) (by kernel_rfl) (fun _ _ _ h => h) (Or.inl ⟨by rfl, ?_⟩) (by assumption) ?_
                                  rotate_left 1
                                  · intro w hSw; (try dsimp only at hSw); obtain ⟨-, -, ⟨s0, s1, s2⟩, s3⟩ := hSw.out; go_simp; try with_reducible rfl
                                  try simp only [Act.put, List.getElem_toArray, List.getElem_cons_zero, List.getElem_cons_succ, List.setIfInBounds_toArray, List.set_cons_zero, List.set_cons_succ]
                                  refine wpAnyH_ready (rs := [9]) (by kernel_rfl) (by simp) ?_
                                  refine AllReadyH.cons rfl (fun K hK => ?_) AllReadyH.nil
                                  go_simp
                                  refine (HC1 _).out.mono ?_
                                  rintro r w7 ⟨rfl, hb⟩
                                  go_wp2_with fail
                                  refine hK.out _ _ (Lib.hid ⟨hHeld.out.1.trans (hb.mono hHeld.out.1.size), own_below hHeld.out.2.1 hb (Nat.le_refl _), hHeld.out.2.2.1.keep hb, (hb.cell (cell_lt hHeld.out.2.2.2)).trans hHeld.out.2.2.2⟩) (fun hHeld => ?_)
                                  clear hK K
                                  try simp only [Act.put, List.getElem_toArray, List.getElem_cons_zero, List.getElem_cons_succ, List.setIfInBounds_toArray, List.set_cons_zero, List.set_cons_succ]
                                  refine wpAnyH_take (i := 10) (v := ?_) rfl (by kernel_rfl) (by kernel_rfl) (by kernel_rfl) (fun _ _ _ h => h) (Or.inl ⟨by rfl, ?_⟩) (by assumption) ?_
                                  rotate_left 1
                                  · intro w _; go_simp; try with_reducible rfl
                                  try simp only [Act.put, List.getElem_toArray, List.getElem_cons_zero, List.getElem_cons_succ, List.setIfInBounds_toArray, List.set_cons_zero, List.set_cons_succ]
                                  refine wpAnyH_take (i := 11) (v := ?_) rfl (by kernel_rfl) (by kernel_rfl) (by kernel_rfl) (fun _ _ _ h => h) (Or.inl ⟨by rfl, ?_⟩) (by assumption) ?_
                                  rotate_left 1
                                  · intro w _; go_simp; try with_reducible rfl
                                  try simp only [Act.put, List.getElem_toArray, List.getElem_cons_zero, List.getElem_cons_succ, List.setIfInBounds_toArray, List.set_cons_zero, List.set_cons_succ]
                                  refine wpAnyH_take (i := 12) (v := ?_) rfl (by kernel_rfl) (by kernel_rfl) (by kernel_rfl) (fun _ _ _ h => h) (Or.inl ⟨by rfl, ?_⟩) (by assumption) ?_
                                  rotate_left 1
                                  · intro w _; go_simp; try with_reducible rfl
                                  try simp only [Act.put, List.getElem_toArray, List.getElem_cons_zero, List.getElem_cons_succ, List.setIfInBounds_toArray, List.set_cons_zero, List.set_cons_succ]
                                  refine wpAnyH_take (i := 13) (v := ?_) rfl (by kernel_rfl) (by kernel_rfl) (by kernel_rfl) (fun _ _ _ h => h) (Or.inl ⟨by rfl, ?_⟩) (by assumption) ?_
                                  rotate_left 1
                                  · intro w _; go_simp; try with_reducible rfl
                                  try simp only [Act.put, List.getElem_toArray, List.getElem_cons_zero, List.getElem_cons_succ, List.setIfInBounds_toArray, List.set_cons_zero, List.set_cons_succ]
                                  refine wpAnyH_take (i := 14) (v := ?_) rfl (by kernel_rfl) (by kernel_rfl) (by kernel_rfl) (fun _ _ _ h => h) (Or.inl ⟨by rfl, ?_⟩) (by assumption) ?_
                                  rotate_left 1
                                  · intro w hSw; (try dsimp only at hSw); obtain ⟨-, -, ⟨s0, s1, s2⟩, s3⟩ := hSw.out; go_simp; try with_reducible rfl
                                  try simp only [Act.put, List.getElem_toArray, List.getElem_cons_zero, List.getElem_cons_succ, List.setIfInBounds_toArray, List.set_cons_zero, List.set_cons_succ]
                                  refine wpAnyH_take (i := 15) (v := ?_) rfl (by kernel_rfl) (by kernel_rfl) (by kernel_rfl) (fun _ _ _ h => h) (Or.inl ⟨by rfl, ?_⟩) (by assumption) ?_
                                  rotate_left 1
                                  · intro w _; go_simp; try with_reducible rfl
                                  try simp only [Act.put, List.getElem_toArray, List.getElem_cons_zero, List.getElem_cons_succ, List.setIfInBounds_toArray, List.set_cons_zero, List.set_cons_succ]
                                  refine wpAnyH_ready (rs := [16]) (by kernel_rfl) (by simp) ?_
                                  refine AllReadyH.cons rfl (fun K hK => ?_) AllReadyH.nil
                                  go_simp
                                  refine (HC2 _).out.mono ?_
                                  rintro r w7 ⟨rfl, hb⟩
                                  go_wp2_with fail
                                  refine hK.out _ _ (Lib.hid ⟨hHeld.out.1.trans (hb.mono hHeld.out.1.size), own_below hHeld.out.2.1 hb (Nat.le_refl _), hHeld.out.2.2.1.keep hb, (hb.cell (cell_lt hHeld.out.2.2.2)).trans hHeld.out.2.2.2⟩) (fun hHeld => ?_)
                                  clear hK K
                                  try simp only [Act.put, List.getElem_toArray, List.getElem_cons_zero, List.getElem_cons_succ, List.setIfInBounds_toArray, List.set_cons_zero, List.set_cons_succ]
                                  refine wpAnyH_take (i := 17) (v := ?_) rfl (by kernel_rfl) (by kernel_rfl) (by kernel_rfl) (fun _ _ _ h => h) (Or.inl ⟨by rfl, ?_⟩) (by assumption) ?_
                                  rotate_left 1
                                  · intro w _; go_simp; try with_reducible rfl
                                  try simp only [Act.put, List.getElem_toArray, List.getElem_cons_zero, List.getElem_cons_succ, List.setIfInBounds_toArray, List.set_cons_zero, List.set_cons_succ]
                                  refine wpAnyH_take (i := 18) (v := ?_) rfl (by kernel_rfl) (by kernel_rfl) (by kernel_rfl) (fun _ _ _ h => h) (Or.inl ⟨by rfl, ?_⟩) (by assumption) ?_
                                  rotate_left 1
                                  · intro w _; go_simp; try with_reducible rfl
                                  try simp only [Act.put, List.getElem_toArray, List.getElem_cons_zero, List.getElem_cons_succ, List.setIfInBounds_toArray, List.set_cons_zero, List.set_cons_succ]
                                  refine wpAnyH_done (by kernel_rfl) ?_ _
                                  have HBE := Lib.hid hHeld.out.1
                                  have HOE := Lib.hid hHeld.out.2.1
                                  clear hHeld
                                  go_wp2_with fail
                                  go_roundw
                                  case rel => exact ⟨i + 1, by omega, by go_num, Lib.hid (by rw [List.take_add_one, HX.out, List.all_append, HI.out]; simp only [Option.toList_some, List.all_cons, List.all_nil, Bool.and_true, Bool.true_and]; exact HNP.out), HOE, HBE⟩
                                  case measure => simp [intOf]; omega
                                | false =>
                                  have HE : Hid (E = 90 ∧ FL = []) := Lib.hid (by
                                    rw [← HEF.out.1, ← HEF.out.2]
                                    refine flE9_90 HCM.out (fun h => jp9_no (by rw [HLm.out]; exact hp) (out := lpU9 L m) ?_ (by have := h.2.2.2; rwa [HLm.out] at this ⊢))
                                    rw [HJ.out, List.all_eq_false.2 ⟨_, List.mem_of_getElem? HX.out, by rw [HNP0.out]; simp⟩]
                                    simp)
                                  go_upto_region 21 with (fail)
                                  refine wp_region_held_drew (S := fun w' => Hid (Below w.heap.size w w' ∧ w'.ownsRow w.heap.size 41 3 (.slice (some ae) n1 c1) n1 (cej (lpU9 L m)) ∧ At9 w' ae i f t z ∧ w'.cell? ⟨(ad.add (p * 3)).block, (ad.add (p * 3)).off + 1, none⟩ = some (.int .i64 b))) (by kernel_rfl) (SR) (fun hHeld => ?_)
                                  refine wpAnyH_take (i := 0) (v := ?_) rfl (by kernel_rfl) (by kernel_rfl) (by kernel_rfl) (fun _ _ _ h => h) (Or.inl ⟨by rfl, ?_⟩) (by assumption) ?_
                                  rotate_left 1
                                  · intro w _; go_simp; try with_reducible rfl
                                  try simp only [Act.put, List.getElem_toArray, List.getElem_cons_zero, List.getElem_cons_succ, List.setIfInBounds_toArray, List.set_cons_zero, List.set_cons_succ]
                                  refine wpAnyH_take (i := 1) (v := ?_) rfl (by kernel_rfl) (by kernel_rfl) (by kernel_rfl) (fun _ _ _ h => h) (Or.inl ⟨by rfl, ?_⟩) (by assumption) ?_
                                  rotate_left 1
                                  · intro w _; go_simp; try with_reducible rfl
                                  try simp only [Act.put, List.getElem_toArray, List.getElem_cons_zero, List.getElem_cons_succ, List.setIfInBounds_toArray, List.set_cons_zero, List.set_cons_succ]
                                  refine wpAnyH_take (i := 2) (v := ?_) rfl (by kernel_rfl) (by kernel_rfl) (by kernel_rfl) (fun _ _ _ h => h) (Or.inl ⟨by rfl, ?_⟩) (by assumption) ?_
                                  rotate_left 1
                                  · intro w _; go_simp; try with_reducible rfl
                                  try simp only [Act.put, List.getElem_toArray, List.getElem_cons_zero, List.getElem_cons_succ, List.setIfInBounds_toArray, List.set_cons_zero, List.set_cons_succ]
                                  refine wpAnyH_take (i := 3) (v := ?_) rfl (by kernel_rfl) (by kernel_rfl) (by kernel_rfl) (fun _ _ _ h => h) (Or.inl ⟨by rfl, ?_⟩) (by assumption) ?_
                                  rotate_left 1
                                  · intro w hSw; (try dsimp only at hSw); obtain ⟨-, -, ⟨s0, s1, s2⟩, s3⟩ := hSw.out; go_simp; try with_reducible rfl
                                  try simp only [Act.put, List.getElem_toArray, List.getElem_cons_zero, List.getElem_cons_succ, List.setIfInBounds_toArray, List.set_cons_zero, List.set_cons_succ]
                                  refine wpAnyH_take (i := 4) (v := ?_) rfl (by kernel_rfl) (by kernel_rfl) (by kernel_rfl) (fun _ _ _ h => h) (Or.inl ⟨by rfl, ?_⟩) (by assumption) ?_
                                  rotate_left 1
                                  · intro w _; go_simp; try with_reducible rfl
                                  try simp only [Act.put, List.getElem_toArray, List.getElem_cons_zero, List.getElem_cons_succ, List.setIfInBounds_toArray, List.set_cons_zero, List.set_cons_succ]
                                  refine wpAnyH_take (i := 5) (v := ?_) rfl (by kernel_rfl) (by kernel_rfl) (by kernel_rfl) (fun _ _ _ h => h) (Or.inl ⟨by rfl, ?_⟩) (by assumption) ?_
                                  rotate_left 1
                                  · intro w _; go_simp; try with_reducible rfl
                                  try simp only [Act.put, List.getElem_toArray, List.getElem_cons_zero, List.getElem_cons_succ, List.setIfInBounds_toArray, List.set_cons_zero, List.set_cons_succ]
                                  refine wpAnyH_take (i := 6) (v := ?_) rfl (by kernel_rfl) (by kernel_rfl) (by kernel_rfl) (fun _ _ _ h => h) (Or.inl ⟨by rfl, ?_⟩) (by assumption) ?_
                                  rotate_left 1
                                  · intro w _; go_simp; try with_reducible rfl
                                  try simp only [Act.put, List.getElem_toArray, List.getElem_cons_zero, List.getElem_cons_succ, List.setIfInBounds_toArray, List.set_cons_zero, List.set_cons_succ]
                                  refine wpAnyH_take (i := 7) (v := ?_) rfl (by kernel_rfl) (by kernel_rfl) (by kernel_rfl) (fun _ _ _ h => h) (Or.inl ⟨by rfl, ?_⟩) (by assumption) ?_
                                  rotate_left 1
                                  · intro w _; go_simp; try with_reducible rfl
                                  try simp only [Act.put, List.getElem_toArray, List.getElem_cons_zero, List.getElem_cons_succ, List.setIfInBounds_toArray, List.set_cons_zero, List.set_cons_succ]
                                  refine wpAnyH_take (i := 8) (v := ?_) rfl (by kernel_rfl) (by kernel_rfl) (by kernel_rfl) (fun _ _ _ h => h) (Or.inl ⟨by rfl, ?_⟩) (by assumption) ?_
                                  rotate_left 1
                                  · intro w hSw; (try dsimp only at hSw); obtain ⟨-, -, ⟨s0, s1, s2⟩, s3⟩ := hSw.out; go_simp; try with_reducible rfl
                                  try simp only [Act.put, List.getElem_toArray, List.getElem_cons_zero, List.getElem_cons_succ, List.setIfInBounds_toArray, List.set_cons_zero, List.set_cons_succ]
                                  refine wpAnyH_ready (rs := [9]) (by kernel_rfl) (by simp) ?_
                                  refine AllReadyH.cons rfl (fun K hK => ?_) AllReadyH.nil
                                  go_simp
                                  refine (HC1 _).out.mono ?_
                                  rintro r w7 ⟨rfl, hb⟩
                                  go_wp2_with fail
                                  refine hK.out _ _ (Lib.hid ⟨hHeld.out.1.trans (hb.mono hHeld.out.1.size), own_below hHeld.out.2.1 hb (Nat.le_refl _), hHeld.out.2.2.1.keep hb, (hb.cell (cell_lt hHeld.out.2.2.2)).trans hHeld.out.2.2.2⟩) (fun hHeld => ?_)
                                  clear hK K
                                  try simp only [Act.put, List.getElem_toArray, List.getElem_cons_zero, List.getElem_cons_succ, List.setIfInBounds_toArray, List.set_cons_zero, List.set_cons_succ]
                                  refine wpAnyH_take (i := 10) (v := ?_) rfl (by kernel_rfl) (by kernel_rfl) (by kernel_rfl) (fun _ _ _ h => h) (Or.inl ⟨by rfl, ?_⟩) (by assumption) ?_
                                  rotate_left 1
                                  · intro w _; go_simp; try with_reducible rfl
                                  try simp only [Act.put, List.getElem_toArray, List.getElem_cons_zero, List.getElem_cons_succ, List.setIfInBounds_toArray, List.set_cons_zero, List.set_cons_succ]
                                  refine wpAnyH_take (i := 11) (v := ?_) rfl (by kernel_rfl) (by kernel_rfl) (by kernel_rfl) (fun _ _ _ h => h) (Or.inl ⟨by rfl, ?_⟩) (by assumption) ?_
                                  rotate_left 1
                                  · intro w _; go_simp; try with_reducible rfl
                                  try simp only [Act.put, List.getElem_toArray, List.getElem_cons_zero, List.getElem_cons_succ, List.setIfInBounds_toArray, List.set_cons_zero, List.set_cons_succ]
                                  refine wpAnyH_take (i := 12) (v := ?_) rfl (by kernel_rfl) (by kernel_rfl) (by kernel_rfl) (fun _ _ _ h => h) (Or.inl ⟨by rfl, ?_⟩) (by assumption) ?_
                                  rotate_left 1
                                  · intro w _; go_simp; try with_reducible rfl
                                  try simp only [Act.put, List.getElem_toArray, List.getElem_cons_zero, List.getElem_cons_succ, List.setIfInBounds_toArray, List.set_cons_zero, List.set_cons_succ]
                                  refine wpAnyH_take (i := 13) (v := ?_) rfl (by kernel_rfl) (by kernel_rfl) (by kernel_rfl) (fun _ _ _ h => h) (Or.inl ⟨by rfl, ?_⟩) (by assumption) ?_
                                  rotate_left 1
                                  · intro w _; go_simp; try with_reducible rfl
                                  try simp only [Act.put, List.getElem_toArray, List.getElem_cons_zero, List.getElem_cons_succ, List.setIfInBounds_toArray, List.set_cons_zero, List.set_cons_succ]
                                  refine wpAnyH_take (i := 14) (v := ?_) rfl (by kernel_rfl) (by kernel_rfl) (by kernel_rfl) (fun _ _ _ h => h) (Or.inl ⟨by rfl, ?_⟩) (by assumption) ?_
                                  rotate_left 1
                                  · intro w hSw; (try dsimp only at hSw); obtain ⟨-, -, ⟨s0, s1, s2⟩, s3⟩ := hSw.out; go_simp; try with_reducible rfl
                                  try simp only [Act.put, List.getElem_toArray, List.getElem_cons_zero, List.getElem_cons_succ, List.setIfInBounds_toArray, List.set_cons_zero, List.set_cons_succ]
                                  refine wpAnyH_take (i := 15) (v := ?_) rfl (by kernel_rfl) (by kernel_rfl) (by kernel_rfl) (fun _ _ _ h => h) (Or.inl ⟨by rfl, ?_⟩) (by assumption) ?_
                                  rotate_left 1
                                  · intro w _; go_simp; try with_reducible rfl
                                  try simp only [Act.put, List.getElem_toArray, List.getElem_cons_zero, List.getElem_cons_succ, List.setIfInBounds_toArray, List.set_cons_zero, List.set_cons_succ]
                                  refine wpAnyH_ready (rs := [16]) (by kernel_rfl) (by simp) ?_
                                  refine AllReadyH.cons rfl (fun K hK => ?_) AllReadyH.nil
                                  go_simp
                                  refine (HC2 _).out.mono ?_
                                  rintro r w7 ⟨rfl, hb⟩
                                  go_wp2_with fail
                                  refine hK.out _ _ (Lib.hid ⟨hHeld.out.1.trans (hb.mono hHeld.out.1.size), own_below hHeld.out.2.1 hb (Nat.le_refl _), hHeld.out.2.2.1.keep hb, (hb.cell (cell_lt hHeld.out.2.2.2)).trans hHeld.out.2.2.2⟩) (fun hHeld => ?_)
                                  clear hK K
                                  try simp only [Act.put, List.getElem_toArray, List.getElem_cons_zero, List.getElem_cons_succ, List.setIfInBounds_toArray, List.set_cons_zero, List.set_cons_succ]
                                  refine wpAnyH_take (i := 17) (v := ?_) rfl (by kernel_rfl) (by kernel_rfl) (by kernel_rfl) (fun _ _ _ h => h) (Or.inl ⟨by rfl, ?_⟩) (by assumption) ?_
                                  rotate_left 1
                                  · intro w _; go_simp; try with_reducible rfl
                                  try simp only [Act.put, List.getElem_toArray, List.getElem_cons_zero, List.getElem_cons_succ, List.setIfInBounds_toArray, List.set_cons_zero, List.set_cons_succ]
                                  refine wpAnyH_take (i := 18) (v := ?_) rfl (by kernel_rfl) (by kernel_rfl) (by kernel_rfl) (fun _ _ _ h => h) (Or.inl ⟨by rfl, ?_⟩) (by assumption) ?_
                                  rotate_left 1
                                  · intro w _; go_simp; try with_reducible rfl
                                  try simp only [Act.put, List.getElem_toArray, List.getElem_cons_zero, List.getElem_cons_succ, List.setIfInBounds_toArray, List.set_cons_zero, List.set_cons_succ]
                                  refine wpAnyH_done (by kernel_rfl) ?_ _
                                  have HBE := Lib.hid hHeld.out.1
                                  clear hHeld
                                  go_wp2_with fail
                                  go_ret2
                                  exact ⟨none, 0, by rw [HE.out.1, HE.out.2]; rfl, by rw [HE.out.2]; exact World.ownsRow_nil _ _ _ _, HBE.out⟩
                            · obtain rfl : n1 = i := by omega
                              have HP2 : Hid ((List.range (p + 1)).all (jp9 L (lpU9 L m)) = true) := Lib.hid (by
                                have h := HI.out
                                rw [List.take_of_length_le (by rw [← HN1.out]; exact Nat.le_refl _)] at h
                                rw [List.range_succ, List.all_append, HP.out]
                                simp only [List.all_cons, List.all_nil, Bool.and_true, Bool.true_and]
                                rw [HJ.out, h, decide_eq_true (by omega), decide_eq_true (by omega)]; rfl)
                              go_wp2_with fail
                              go_roundw
                              case rel => exact ⟨p + 1, by omega, by go_num, HP2, HOW, HB⟩
                              case measure => simp [intOf]; omega
                  · have e26 : (o != 26) = true := by simp; omega
                    have e27 : (o != 27) = true := by simp; omega
                    have HP2 : Hid ((List.range (p + 1)).all (jp9 L (lpU9 L m)) = true) := Lib.hid (by
                      rw [List.range_succ, List.all_append, HP.out]
                      simp only [List.all_cons, List.all_nil, Bool.and_true, Bool.true_and]
                      rw [jp9, HXO.out.1, if_neg hj])
                    go_wp2_with fail
                    go_roundw
                    case rel => exact ⟨p + 1, by omega, by go_num, HP2, HOW, HB⟩
                    case measure => simp [intOf]; omega
                · obtain rfl : m = p := by omega
                  have HE : Hid (E = 0 ∧ FL = lpU9 L m) := Lib.hid (by
                    rw [← HEF.out.1, ← HEF.out.2]
                    have h := flE9_ok HCM.out ⟨HOK.out, by rw [HLm.out]; exact HNS.out, by rw [HLA.out]; simp, by rw [HLm.out]; exact HP.out⟩
                    rwa [HLm.out] at h)
                  go_wp2_with fail
                  go_ret2
                  exact ⟨A1, c1, by rw [HE.out.1, HE.out.2, ← HN1.out]; rfl, by rw [HE.out.2, ← HN1.out]; exact HOW.out, HB.out⟩
          · have HE : Hid (E = 90 ∧ FL = []) := Lib.hid (by
              rw [← HEF.out.1, ← HEF.out.2]
              exact flE9_90 HCM.out (fun h => hla (by rw [← HLA.out]; exact h.2.2.1)))
            have e31 : (o != 31) = true := by simp; omega
            have e32 : (o != 32) = true := by simp; omega
            go_wp2_with fail
            refine (HNE _ (Below.refl _ _)).out.mono ?_
            rintro r w3 ⟨rfl, hb⟩
            have HB3 := Lib.hid (HB2.out.trans (hb.mono HB2.out.size))
            clear hb k1
            go_wp2_with fail
            go_ret2
            exact ⟨none, 0, by rw [HE.out.1, HE.out.2]; rfl, by rw [HE.out.2]; exact World.ownsRow_nil _ _ _ _, HB3.out⟩
end Go.Proofs.Ytfchdggefedgoaa
