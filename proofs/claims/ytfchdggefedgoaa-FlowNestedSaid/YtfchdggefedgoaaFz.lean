/-
  The law FlowNested.
-/
import Derived.Test.YtfchdggefedgoaaFi
namespace Go.Proofs.Ytfchdggefedgoaa
open Go.RowKit
set_option maxRecDepth 100000
set_option linter.unusedSimpArgs false
set_option linter.unusedVariables false

/-- The OpAgains ahead of a place. -/
def sA9 (l : List Ins) (p : Nat) : List Nat := (List.range p).filter fun f => iO9 l f == 29
theorem sA9_succ (l : List Ins) (p : Nat) : sA9 l (p + 1) = sA9 l p ++ (if iO9 l p = 29 then [p] else []) := by
  rw [sA9, List.range_succ, List.filter_append]
  simp only [List.filter_cons, List.filter_nil, sA9, beq_iff_eq]
theorem sA9_count {l : List Ins} : ∀ p, sG9 l p → (sA9 l p).length + (sS9 l p).length = (sF9 l p).length
  | 0, _ => by simp [sA9, sS9, sF9]
  | p + 1, hG => by
    have hG' : sG9 l p := fun q hq => hG q (by omega)
    have ih := sA9_count p hG'
    rw [sA9_succ, sF9_succ]
    by_cases h1 : iO9 l p = 28
    · rw [(s9_loop h1 (sG9_self hG')).2, if_neg (by omega), if_pos h1]
      simp
      omega
    · by_cases h2 : iO9 l p = 29
      · obtain ⟨f, hf, hA⟩ := (hG p (by omega)).2 h2
        have hpos : 0 < (sS9 l p).length := List.length_pos_of_mem (List.mem_of_getLast? hf)
        rw [(s9_again h2 hf hA).2, if_pos h2, if_neg h1]
        simp
        omega
      · rw [(s9_other h1 h2).2, if_neg h1, if_neg h2]
        simpa using ih
theorem cnt9 {l : List Ins} (h : flE9 l = 0) : (sF9 l l.length).length = (lpU9 l l.length).length ∧ (sA9 l l.length).length = (lpU9 l l.length).length := by
  obtain ⟨hc, hok, hns, -⟩ := flE9_zero h
  obtain ⟨hG, hS⟩ := (stack9 hc).1 ⟨hok, hns⟩
  have h1 := stack9_loops hG hS
  have h2 : (sF9 l l.length).length = (lpU9 l l.length).length := by rw [h1, sL9, List.length_map]
  have h3 := sA9_count l.length hG
  rw [hS] at h3
  simp at h3
  exact ⟨h2, by omega⟩
set_option maxHeartbeats 16000000 in
theorem nested9_walk (A : Option Addr) (c m : Nat) (L : List Ins) (w : World) (hr : Ri w A c L) (hm : L.length = m) :
    Calls Try.prog 7 #[.slice A m c] w fun r w' => r = .returned (.bool true) ∧ Below w.heap.size w w' := by
  have HLm := Lib.hid hm
  have HR := Lib.hid hr
  have hml : m ≤ 9223372036854775807 := by have := hr.len; omega
  clear hr hm
  go_enter Try.func7, Try.ntmps7
  go_wp2_with fail
  refine (awake9_any kfloops ftimes_v fways_v kfcheck _).mono ?_
  rintro r w1 ⟨rfl, hb⟩
  have HB1 := Lib.hid hb
  clear hb
  by_cases h3 : 300 < m
  · go_wp2_with fail
    go_ret
    exact ⟨rfl, HB1.out⟩
  have HL2 := Lib.hid (kfloops A c m L w1 (HR.out.keep HB1.out) HLm.out (by omega))
  have HT2 := fun w' h => Lib.hid (ftimes_v A c m L w' h HLm.out (by omega))
  obtain ⟨E, hE⟩ : ∃ e, flE9 L = e := ⟨_, rfl⟩
  obtain ⟨FL, hFL⟩ : ∃ x, flL9 L = x := ⟨_, rfl⟩
  obtain ⟨T, hT⟩ : ∃ t, flT9 L = t := ⟨_, rfl⟩
  have HEF := Lib.hid (show flE9 L = E ∧ flL9 L = FL ∧ flT9 L = T from ⟨hE, hFL, hT⟩)
  rw [hE, hFL] at HL2
  rw [hE, hT] at HT2
  clear hE hFL hT
  obtain ⟨n, hn⟩ : ∃ n, FL.length = n := ⟨_, rfl⟩
  obtain ⟨q, hq⟩ : ∃ q, T.length = q := ⟨_, rfl⟩
  rw [hn] at HL2
  rw [hq] at HT2
  have HN := Lib.hid hn
  have HQ := Lib.hid hq
  clear hn hq
  go_wp2_with fail
  refine HL2.out.mono ?_
  rintro r w2 ⟨A1, c1, rfl, ho, hb⟩
  have HJ2 : Hid (Rj w2 A1 c1 FL) := Lib.hid (Rj.of_own ho (fun _ _ => trivial)).1
  have HB2 : Hid (Below w.heap.size w w2) := Lib.hid (below_on HB1.out hb)
  clear ho hb HL2 HB1
  have P2 := HT2 w2 (HR.out.keep HB2.out)
  clear HT2
  go_wp2_with fail
  refine P2.out.mono ?_
  rintro r w3 ⟨A2, c2, rfl, ho, hb⟩
  have HNN : Hid (Rn w3 A2 c2 T) := Lib.hid (Rn.of_own ho).1
  have HJ : Hid (Rj w3 A1 c1 FL) := Lib.hid (HJ2.out.keep hb)
  have HB3 : Hid (Below w.heap.size w w3) := Lib.hid (below_on HB2.out hb)
  clear ho hb P2 HB2 HJ2
  by_cases h0 : E = 0
  · subst h0
    have hE0 := HEF.out.1
    have HT : Hid (T = (List.range m).map (tm9 FL) ∧ FL = lpU9 L L.length) := Lib.hid (by
      have h1 := HEF.out.2.1
      have h2 := HEF.out.2.2
      rw [flL9, if_pos hE0] at h1
      rw [flT9, if_pos hE0, h1, HLm.out] at h2
      exact ⟨h2.symm, h1.symm⟩)
    have HWl : Hid (Wl9 L FL) := Lib.hid (by rw [HT.out.2]; exact wl9 hE0)
    have HBD : Hid (∀ p, p < m → ∀ i, 1 ≤ tm9 (FL.take i) p ∧ tm9 (FL.take i) p ≤ 100000000) := Lib.hid fun p hp i => by
      rw [HT.out.2]
      exact tmk_bd hE0 (by rw [HLm.out]; exact hp) i
    have H4 : Hid (∀ p, p < m → (lq9 FL p).length ≤ 4) := Lib.hid fun p hp => by
      rw [HT.out.2]
      exact lq9_four hE0 (by rw [HLm.out]; exact hp)
    have HCN : Hid ((sF9 L m).length = n ∧ (sA9 L m).length = n) := Lib.hid (by
      have h := cnt9 hE0
      rw [← HT.out.2, HN.out, HLm.out] at h
      exact h)
    have hm2 : m ≤ 200 := by have := (codM_all (flE9_zero hE0).1).2.1; rw [HLm.out] at this; exact this
    have hqm : q = m := by rw [← HQ.out, HT.out.1]; simp
    subst hqm
    have hnm : n ≤ q := by rw [← HCN.out.1]; exact sF9_len L q
    clear hE0
    go_wp2_with fail
    go_loopw [7, 8, 9] (fun ov av pv wq => ∃ p no na : Nat, p ≤ q ∧ no ≤ p ∧ na ≤ p ∧ pv = .int .i64 p ∧ ov = .int .i64 no ∧ av = .int .i64 na ∧ w3 = wq ∧ Hid (no = (sF9 L p).length) ∧ Hid (na = (sA9 L p).length)) (fun _ _ pv _ => q - (intOf pv).toNat)
    case atStart => exact ⟨0, 0, 0, by omega, by omega, by omega, rfl, rfl, rfl, rfl, Lib.hid rfl, Lib.hid rfl⟩
    case round =>
      obtain ⟨p, no, na, hp, hno, hna, rfl, rfl, rfl, rfl, HNO, HNA⟩ := hrel
      by_cases h1 : p < q
      · obtain ⟨⟨o, b, z0⟩, hx⟩ : ∃ x, L[p]? = some x := ⟨_, List.getElem?_eq_getElem (by rw [HLm.out]; exact h1)⟩
        have HXO : Hid (iO9 L p = o) := Lib.hid (by simp [iO9, hx])
        obtain ⟨al, hA, k1, -, -⟩ := (HR.out.keep HB3.out).cl9 hx
        subst hA
        clear hx
        by_cases h28 : o = 28
        · subst h28
          have HNO : Hid (no + 1 = (sF9 L (p + 1)).length) := Lib.hid (by rw [sF9_succ, if_pos HXO.out, List.length_append, ← HNO.out]; rfl)
          have HNA : Hid (na = (sA9 L (p + 1)).length) := Lib.hid (by rw [sA9_succ, if_neg (by rw [HXO.out]; omega), List.append_nil, ← HNA.out])
          go_wp2_with fail
          go_loopw [10, 11, 12] (fun nv dv iv wq => ∃ (i e : Nat) (v : Int), i ≤ n ∧ e ≤ i ∧ iv = .int .i64 i ∧ nv = .int .i64 v ∧ dv = .int .i64 e ∧ w3 = wq ∧ Hid (v = tm9 (FL.take i) p) ∧ (1 ≤ v ∧ v ≤ 100000000) ∧ Hid (e = (lq9 (FL.take i) p).length)) (fun _ _ iv _ => n - (intOf iv).toNat)
          case atStart => exact ⟨0, 0, 1, by omega, by omega, rfl, rfl, rfl, rfl, Lib.hid (by simp [tm9, lq9]), by omega, Lib.hid (by simp [lq9])⟩
          case round =>
            obtain ⟨i, e, v, hi, hei, rfl, rfl, rfl, rfl, HV, hvb, HE⟩ := hrel
            by_cases h2 : i < n
            · obtain ⟨⟨f, t, z⟩, hx⟩ : ∃ x, FL[i]? = some x := ⟨_, List.getElem?_eq_getElem (by rw [HN.out]; exact h2)⟩
              have hst := tm9_take (p := p) hx
              have hlq := lq9_take (p := p) hx
              have hbd := HBD.out p h1 (i + 1)
              obtain ⟨ad, hA, k1, k2, k3⟩ := HJ.out.cl9 hx
              subst hA
              have hwi : wi9 (f, t, z) p = (decide (f < p) && decide (p ≤ t)) := rfl
              by_cases hb : f < p ∧ p ≤ t
              · obtain ⟨hb1, hb2⟩ := hb
                have hw1 : wi9 (f, t, z) p = true := by rw [hwi, decide_eq_true hb1, decide_eq_true hb2]; rfl
                rw [if_pos hw1] at hlq
                rw [if_pos hw1, ← HV.out] at hst
                obtain ⟨y, hy⟩ : ∃ y, v * z = y := ⟨_, rfl⟩
                have HV2 : Hid (y = tm9 (FL.take (i + 1)) p) := Lib.hid (by rw [hst, ← hy])
                have HE2 : Hid (e + 1 = (lq9 (FL.take (i + 1)) p).length) := Lib.hid (by rw [hlq, List.length_append, ← HE.out]; rfl)
                rw [hst] at hbd
                simp only at hbd
                rw [hy] at hbd
                have hwr : IntKind.i64.wrap (v * z) = y := by
                  rw [hy]
                  simp [IntKind.wrap, IntKind.signed, IntKind.bits, go_sem]
                  omega
                clear hst hlq hx hwi hy hw1
                go_wp2_with fail
                go_roundw
                case rel => exact ⟨i + 1, e + 1, y, by omega, by omega, by go_num, rfl, by go_num, (by first | trivial | rfl), HV2, hbd, HE2⟩
                case measure => simp [intOf]; omega
              · have hb3 : (decide (f < p) && decide (p ≤ t)) = false := by
                  rw [Bool.and_eq_false_iff, decide_eq_false_iff_not, decide_eq_false_iff_not]
                  omega
                have hw1 : ¬ wi9 (f, t, z) p = true := by rw [hwi, hb3]; decide
                rw [if_neg hw1] at hst hlq
                have HV2 : Hid (v = tm9 (FL.take (i + 1)) p) := Lib.hid (by rw [hst, HV.out])
                have HE2 : Hid (e = (lq9 (FL.take (i + 1)) p).length) := Lib.hid (by rw [hlq, HE.out]; simp)
                clear hst hlq hbd hx hwi hb3 hw1
                by_cases hb1 : f < p
                · have hb2 : ¬ p ≤ t := fun h => hb ⟨hb1, h⟩
                  go_wp2_with fail
                  go_roundw
                  case rel => exact ⟨i + 1, e, v, by omega, by omega, by go_num, rfl, rfl, (by first | trivial | rfl), HV2, hvb, HE2⟩
                  case measure => simp [intOf]; omega
                · go_wp2_with fail
                  go_roundw
                  case rel => exact ⟨i + 1, e, v, by omega, by omega, by go_num, rfl, rfl, (by first | trivial | rfl), HV2, hvb, HE2⟩
                  case measure => simp [intOf]; omega
            · obtain rfl : n = i := by omega
              have hTp : T[p]? = some v := by
                rw [HT.out.1, List.getElem?_map, List.getElem?_range h1, Option.map_some, HV.out, List.take_of_length_le (by rw [HN.out]; exact Nat.le_refl _)]
              have he4 : e ≤ 4 := by
                rw [HE.out, List.take_of_length_le (by rw [HN.out]; exact Nat.le_refl _)]
                exact H4.out p h1
              obtain ⟨ad, hA, k1⟩ := HNN.out.at_ hTp
              subst hA
              clear hTp
              go_wp2_with fail
              go_roundw
              case rel => exact ⟨p + 1, no + 1, na, by omega, by omega, by omega, by go_num, by go_num, by go_num, (by first | trivial | rfl), HNO, HNA⟩
              case measure => simp [intOf]; omega
        · have e28 : (o == 28) = false := by simpa using h28
          have HNO : Hid (no = (sF9 L (p + 1)).length) := Lib.hid (by rw [sF9_succ, if_neg (by rw [HXO.out]; exact h28), List.append_nil, ← HNO.out])
          by_cases h29 : o = 29
          · subst h29
            have HNA : Hid (na + 1 = (sA9 L (p + 1)).length) := Lib.hid (by rw [sA9_succ, if_pos HXO.out, List.length_append, ← HNA.out]; rfl)
            go_wp2_with fail
            go_loopw [10, 11, 12] (fun nv dv iv wq => ∃ (i e : Nat) (v : Int), i ≤ n ∧ e ≤ i ∧ iv = .int .i64 i ∧ nv = .int .i64 v ∧ dv = .int .i64 e ∧ w3 = wq ∧ Hid (v = tm9 (FL.take i) p) ∧ (1 ≤ v ∧ v ≤ 100000000) ∧ Hid (e = (lq9 (FL.take i) p).length)) (fun _ _ iv _ => n - (intOf iv).toNat)
            case atStart => exact ⟨0, 0, 1, by omega, by omega, rfl, rfl, rfl, rfl, Lib.hid (by simp [tm9, lq9]), by omega, Lib.hid (by simp [lq9])⟩
            case round =>
              obtain ⟨i, e, v, hi, hei, rfl, rfl, rfl, rfl, HV, hvb, HE⟩ := hrel
              by_cases h2 : i < n
              · obtain ⟨⟨f, t, z⟩, hx⟩ : ∃ x, FL[i]? = some x := ⟨_, List.getElem?_eq_getElem (by rw [HN.out]; exact h2)⟩
                have hst := tm9_take (p := p) hx
                have hlq := lq9_take (p := p) hx
                have hbd := HBD.out p h1 (i + 1)
                obtain ⟨ad, hA, k1, k2, k3⟩ := HJ.out.cl9 hx
                subst hA
                have hwi : wi9 (f, t, z) p = (decide (f < p) && decide (p ≤ t)) := rfl
                by_cases hb : f < p ∧ p ≤ t
                · obtain ⟨hb1, hb2⟩ := hb
                  have hw1 : wi9 (f, t, z) p = true := by rw [hwi, decide_eq_true hb1, decide_eq_true hb2]; rfl
                  rw [if_pos hw1] at hlq
                  rw [if_pos hw1, ← HV.out] at hst
                  obtain ⟨y, hy⟩ : ∃ y, v * z = y := ⟨_, rfl⟩
                  have HV2 : Hid (y = tm9 (FL.take (i + 1)) p) := Lib.hid (by rw [hst, ← hy])
                  have HE2 : Hid (e + 1 = (lq9 (FL.take (i + 1)) p).length) := Lib.hid (by rw [hlq, List.length_append, ← HE.out]; rfl)
                  rw [hst] at hbd
                  simp only at hbd
                  rw [hy] at hbd
                  have hwr : IntKind.i64.wrap (v * z) = y := by
                    rw [hy]
                    simp [IntKind.wrap, IntKind.signed, IntKind.bits, go_sem]
                    omega
                  clear hst hlq hx hwi hy hw1
                  go_wp2_with fail
                  go_roundw
                  case rel => exact ⟨i + 1, e + 1, y, by omega, by omega, by go_num, rfl, by go_num, (by first | trivial | rfl), HV2, hbd, HE2⟩
                  case measure => simp [intOf]; omega
                · have hb3 : (decide (f < p) && decide (p ≤ t)) = false := by
                    rw [Bool.and_eq_false_iff, decide_eq_false_iff_not, decide_eq_false_iff_not]
                    omega
                  have hw1 : ¬ wi9 (f, t, z) p = true := by rw [hwi, hb3]; decide
                  rw [if_neg hw1] at hst hlq
                  have HV2 : Hid (v = tm9 (FL.take (i + 1)) p) := Lib.hid (by rw [hst, HV.out])
                  have HE2 : Hid (e = (lq9 (FL.take (i + 1)) p).length) := Lib.hid (by rw [hlq, HE.out]; simp)
                  clear hst hlq hbd hx hwi hb3 hw1
                  by_cases hb1 : f < p
                  · have hb2 : ¬ p ≤ t := fun h => hb ⟨hb1, h⟩
                    go_wp2_with fail
                    go_roundw
                    case rel => exact ⟨i + 1, e, v, by omega, by omega, by go_num, rfl, rfl, (by first | trivial | rfl), HV2, hvb, HE2⟩
                    case measure => simp [intOf]; omega
                  · go_wp2_with fail
                    go_roundw
                    case rel => exact ⟨i + 1, e, v, by omega, by omega, by go_num, rfl, rfl, (by first | trivial | rfl), HV2, hvb, HE2⟩
                    case measure => simp [intOf]; omega
              · obtain rfl : n = i := by omega
                have hTp : T[p]? = some v := by
                  rw [HT.out.1, List.getElem?_map, List.getElem?_range h1, Option.map_some, HV.out, List.take_of_length_le (by rw [HN.out]; exact Nat.le_refl _)]
                have he4 : e ≤ 4 := by
                  rw [HE.out, List.take_of_length_le (by rw [HN.out]; exact Nat.le_refl _)]
                  exact H4.out p h1
                obtain ⟨ad, hA, k1⟩ := HNN.out.at_ hTp
                subst hA
                clear hTp
                go_wp2_with fail
                go_roundw
                case rel => exact ⟨p + 1, no, na + 1, by omega, by omega, by omega, by go_num, by go_num, by go_num, (by first | trivial | rfl), HNO, HNA⟩
                case measure => simp [intOf]; omega
          · have e29 : (o == 29) = false := by simpa using h29
            have HNA : Hid (na = (sA9 L (p + 1)).length) := Lib.hid (by rw [sA9_succ, if_neg (by rw [HXO.out]; exact h29), List.append_nil, ← HNA.out])
            go_wp2_with fail
            go_loopw [10, 11, 12] (fun nv dv iv wq => ∃ (i e : Nat) (v : Int), i ≤ n ∧ e ≤ i ∧ iv = .int .i64 i ∧ nv = .int .i64 v ∧ dv = .int .i64 e ∧ w3 = wq ∧ Hid (v = tm9 (FL.take i) p) ∧ (1 ≤ v ∧ v ≤ 100000000) ∧ Hid (e = (lq9 (FL.take i) p).length)) (fun _ _ iv _ => n - (intOf iv).toNat)
            case atStart => exact ⟨0, 0, 1, by omega, by omega, rfl, rfl, rfl, rfl, Lib.hid (by simp [tm9, lq9]), by omega, Lib.hid (by simp [lq9])⟩
            case round =>
              obtain ⟨i, e, v, hi, hei, rfl, rfl, rfl, rfl, HV, hvb, HE⟩ := hrel
              by_cases h2 : i < n
              · obtain ⟨⟨f, t, z⟩, hx⟩ : ∃ x, FL[i]? = some x := ⟨_, List.getElem?_eq_getElem (by rw [HN.out]; exact h2)⟩
                have hst := tm9_take (p := p) hx
                have hlq := lq9_take (p := p) hx
                have hbd := HBD.out p h1 (i + 1)
                obtain ⟨ad, hA, k1, k2, k3⟩ := HJ.out.cl9 hx
                subst hA
                have hwi : wi9 (f, t, z) p = (decide (f < p) && decide (p ≤ t)) := rfl
                by_cases hb : f < p ∧ p ≤ t
                · obtain ⟨hb1, hb2⟩ := hb
                  have hw1 : wi9 (f, t, z) p = true := by rw [hwi, decide_eq_true hb1, decide_eq_true hb2]; rfl
                  rw [if_pos hw1] at hlq
                  rw [if_pos hw1, ← HV.out] at hst
                  obtain ⟨y, hy⟩ : ∃ y, v * z = y := ⟨_, rfl⟩
                  have HV2 : Hid (y = tm9 (FL.take (i + 1)) p) := Lib.hid (by rw [hst, ← hy])
                  have HE2 : Hid (e + 1 = (lq9 (FL.take (i + 1)) p).length) := Lib.hid (by rw [hlq, List.length_append, ← HE.out]; rfl)
                  rw [hst] at hbd
                  simp only at hbd
                  rw [hy] at hbd
                  have hwr : IntKind.i64.wrap (v * z) = y := by
                    rw [hy]
                    simp [IntKind.wrap, IntKind.signed, IntKind.bits, go_sem]
                    omega
                  clear hst hlq hx hwi hy hw1
                  go_wp2_with fail
                  go_roundw
                  case rel => exact ⟨i + 1, e + 1, y, by omega, by omega, by go_num, rfl, by go_num, (by first | trivial | rfl), HV2, hbd, HE2⟩
                  case measure => simp [intOf]; omega
                · have hb3 : (decide (f < p) && decide (p ≤ t)) = false := by
                    rw [Bool.and_eq_false_iff, decide_eq_false_iff_not, decide_eq_false_iff_not]
                    omega
                  have hw1 : ¬ wi9 (f, t, z) p = true := by rw [hwi, hb3]; decide
                  rw [if_neg hw1] at hst hlq
                  have HV2 : Hid (v = tm9 (FL.take (i + 1)) p) := Lib.hid (by rw [hst, HV.out])
                  have HE2 : Hid (e = (lq9 (FL.take (i + 1)) p).length) := Lib.hid (by rw [hlq, HE.out]; simp)
                  clear hst hlq hbd hx hwi hb3 hw1
                  by_cases hb1 : f < p
                  · have hb2 : ¬ p ≤ t := fun h => hb ⟨hb1, h⟩
                    go_wp2_with fail
                    go_roundw
                    case rel => exact ⟨i + 1, e, v, by omega, by omega, by go_num, rfl, rfl, (by first | trivial | rfl), HV2, hvb, HE2⟩
                    case measure => simp [intOf]; omega
                  · go_wp2_with fail
                    go_roundw
                    case rel => exact ⟨i + 1, e, v, by omega, by omega, by go_num, rfl, rfl, (by first | trivial | rfl), HV2, hvb, HE2⟩
                    case measure => simp [intOf]; omega
              · obtain rfl : n = i := by omega
                have hTp : T[p]? = some v := by
                  rw [HT.out.1, List.getElem?_map, List.getElem?_range h1, Option.map_some, HV.out, List.take_of_length_le (by rw [HN.out]; exact Nat.le_refl _)]
                have he4 : e ≤ 4 := by
                  rw [HE.out, List.take_of_length_le (by rw [HN.out]; exact Nat.le_refl _)]
                  exact H4.out p h1
                obtain ⟨ad, hA, k1⟩ := HNN.out.at_ hTp
                subst hA
                clear hTp
                go_wp2_with fail
                go_roundw
                case rel => exact ⟨p + 1, no, na, by omega, by omega, by omega, by go_num, by go_num, by go_num, (by first | trivial | rfl), HNO, HNA⟩
                case measure => simp [intOf]; omega
      · obtain rfl : p = q := by omega
        obtain rfl : no = n := by rw [HNO.out]; exact HCN.out.1
        obtain rfl : na = no := by rw [HNA.out]; exact HCN.out.2
        clear HNO HNA
        go_wp2_with fail
        go_loopw [13] (fun iv wq => ∃ i : Nat, i ≤ na ∧ iv = .int .i64 i ∧ Hid (Below w3.heap.size w3 wq)) (fun iv _ => na - (intOf iv).toNat)
        case atStart => exact ⟨0, by omega, rfl, Lib.hid (Below.refl _ _)⟩
        case round =>
          obtain ⟨i, hi, rfl, HBW⟩ := hrel
          by_cases h2 : i < na
          · obtain ⟨⟨f, t, z⟩, hx⟩ : ∃ x, FL[i]? = some x := ⟨_, List.getElem?_eq_getElem (by rw [HN.out]; exact h2)⟩
            have HX := Lib.hid hx
            obtain ⟨m1, m2, m3, m4, m5, m6, -, -⟩ := HWl.out.mem _ (List.mem_of_getElem? hx)
            simp only at m1 m2 m3 m4 m5 m6
            rw [HLm.out] at m2
            have hfm : f < p := by omega
            obtain ⟨ad, hA, k1, k2, k3⟩ := (HJ.out.keep HBW.out).cl9 hx
            subst hA
            clear hx
            obtain ⟨⟨o1, b1, z1⟩, hx1⟩ : ∃ x, L[f]? = some x := ⟨_, List.getElem?_eq_getElem (by rw [HLm.out]; exact hfm)⟩
            obtain ⟨⟨o2, b2, z2⟩, hx2⟩ : ∃ x, L[t]? = some x := ⟨_, List.getElem?_eq_getElem (by rw [HLm.out]; exact m2)⟩
            have e1 : o1 = 28 ∧ b1 = z := ⟨by rw [← m3]; simp [iO9, hx1], by rw [m6]; simp [iA9, hx1]⟩
            have e2 : o2 = 29 ∧ b2 = f := ⟨by rw [← m4]; simp [iO9, hx2], by rw [← m5]; simp [iA9, hx2]⟩
            obtain ⟨rfl, rfl⟩ := e1
            obtain ⟨rfl, rfl⟩ := e2
            have HB5 : Hid (Below w.heap.size w (wr.alloc (.cells #[.int .i64 f, .int .i64 t, .int .i64 b1] 40))) := Lib.hid (below_on (below_on HB3.out HBW.out) new1)
            have HBW5 : Hid (Below w3.heap.size w3 (wr.alloc (.cells #[.int .i64 f, .int .i64 t, .int .i64 b1] 40))) := Lib.hid (below_on HBW.out new1)
            have HX1 := Lib.hid hx1
            have HX2 := Lib.hid hx2
            have hf0 : ¬ (f : Int) < 0 := by omega
            have hpt : ¬ p ≤ t := by omega
            have htf : ¬ t ≤ f := by omega
            clear hx1 hx2 m3 m4 m5 m6
            go_upto_region 30 with (fail)
            obtain ⟨D, hD⟩ : ∃ D, wr.heap.size = D := ⟨_, rfl⟩
            have q0 : (wr.alloc (.cells #[.int .i64 f, .int .i64 t, .int .i64 b1] 40)).cell? ⟨D, 0, none⟩ = some (.int .i64 f) := by rw [← hD]; simp [go_sem]
            have q1 : (wr.alloc (.cells #[.int .i64 f, .int .i64 t, .int .i64 b1] 40)).cell? ⟨D, 1, none⟩ = some (.int .i64 t) := by rw [← hD]; simp [go_sem]
            have q2 : (wr.alloc (.cells #[.int .i64 f, .int .i64 t, .int .i64 b1] 40)).cell? ⟨D, 2, none⟩ = some (.int .i64 b1) := by rw [← hD]; simp [go_sem]
            rw [hD]
            generalize wr.alloc (.cells #[.int .i64 f, .int .i64 t, .int .i64 b1] 40) = w6 at HB5 HBW5 q0 q1 q2 ⊢
            clear k1 k2 k3 HBW hD
            obtain ⟨al, hA, j1, j2, -⟩ := (HR.out.keep HB5.out).cl9 HX1.out
            obtain ⟨al2, hA2, j3, j4, -⟩ := (HR.out.keep HB5.out).cl9 HX2.out
            subst hA
            injection hA2 with hA2
            subst hA2
            have SR : Hid (Below w6.heap.size w6 w6.drew ∧ w6.drew.cell? ⟨D, 0, none⟩ = some (.int .i64 f) ∧ w6.drew.cell? ⟨D, 1, none⟩ = some (.int .i64 t) ∧ w6.drew.cell? ⟨D, 2, none⟩ = some (.int .i64 b1) ∧ w6.drew.cell? (al.add (f * 3)) = some (.int .u8 28) ∧ w6.drew.cell? ⟨(al.add (f * 3)).block, (al.add (f * 3)).off + 1, none⟩ = some (.int .i64 b1) ∧ w6.drew.cell? (al.add (t * 3)) = some (.int .u8 29) ∧ w6.drew.cell? ⟨(al.add (t * 3)).block, (al.add (t * 3)).off + 1, none⟩ = some (.int .i64 f)) := Lib.hid ⟨below_draws (Below.refl _ _) 1, q0, q1, q2, j1, j2, j3, j4⟩
            refine wp_region_held_drew (S := fun w' => Hid (Below w6.heap.size w6 w' ∧ w'.cell? ⟨D, 0, none⟩ = some (.int .i64 f) ∧ w'.cell? ⟨D, 1, none⟩ = some (.int .i64 t) ∧ w'.cell? ⟨D, 2, none⟩ = some (.int .i64 b1) ∧ w'.cell? (al.add (f * 3)) = some (.int .u8 28) ∧ w'.cell? ⟨(al.add (f * 3)).block, (al.add (f * 3)).off + 1, none⟩ = some (.int .i64 b1) ∧ w'.cell? (al.add (t * 3)) = some (.int .u8 29) ∧ w'.cell? ⟨(al.add (t * 3)).block, (al.add (t * 3)).off + 1, none⟩ = some (.int .i64 f))) (by kernel_rfl) (SR) (fun hHeld => ?_)
            refine wpAnyH_take (i := 0) (v := ?_) rfl (by kernel_rfl) (by kernel_rfl) (by kernel_rfl) (fun _ _ _ h => h) (Or.inl ⟨by rfl, ?_⟩) (by assumption) ?_
            rotate_left 1
            · intro w _; go_simp; try with_reducible rfl
            try simp only [Act.put, List.getElem_toArray, List.getElem_cons_zero, List.getElem_cons_succ, List.setIfInBounds_toArray, List.set_cons_zero, List.set_cons_succ]
            refine wpAnyH_take (i := 1) (v := ?_) rfl (by kernel_rfl) (by kernel_rfl) (by kernel_rfl) (fun _ _ _ h => h) (Or.inl ⟨by rfl, ?_⟩) (by assumption) ?_
            rotate_left 1
            · intro w hSw; (try dsimp only at hSw); obtain ⟨-, s0, s1, s2, s3, s4, s5, s6⟩ := hSw.out; go_simp; try with_reducible rfl
            try simp only [Act.put, List.getElem_toArray, List.getElem_cons_zero, List.getElem_cons_succ, List.setIfInBounds_toArray, List.set_cons_zero, List.set_cons_succ]
            refine wpAnyH_take (i := 2) (v := ?_) rfl (by kernel_rfl) (by kernel_rfl) (by kernel_rfl) (fun _ _ _ h => h) (Or.inl ⟨by rfl, ?_⟩) (by assumption) ?_
            rotate_left 1
            · intro w _; go_simp; try with_reducible rfl
            try simp only [Act.put, List.getElem_toArray, List.getElem_cons_zero, List.getElem_cons_succ, List.setIfInBounds_toArray, List.set_cons_zero, List.set_cons_succ]
            refine wpAnyH_take (i := 3) (v := ?_) rfl (by kernel_rfl) (by kernel_rfl) (by kernel_rfl) (fun _ _ _ h => h) (Or.inl ⟨by rfl, ?_⟩) (by assumption) ?_
            rotate_left 1
            · intro w _; go_simp; try with_reducible rfl
            try simp only [Act.put, List.getElem_toArray, List.getElem_cons_zero, List.getElem_cons_succ, List.setIfInBounds_toArray, List.set_cons_zero, List.set_cons_succ]
            refine wpAnyH_take (i := 4) (v := ?_) rfl (by kernel_rfl) (by kernel_rfl) (by kernel_rfl) (fun _ _ _ h => h) (Or.inl ⟨by rfl, ?_⟩) (by assumption) ?_
            rotate_left 1
            · intro w _; go_simp; try with_reducible rfl
            try simp only [Act.put, List.getElem_toArray, List.getElem_cons_zero, List.getElem_cons_succ, List.setIfInBounds_toArray, List.set_cons_zero, List.set_cons_succ]
            refine wpAnyH_take (i := 5) (v := ?_) rfl (by kernel_rfl) (by kernel_rfl) (by kernel_rfl) (fun _ _ _ h => h) (Or.inl ⟨by rfl, ?_⟩) (by assumption) ?_
            rotate_left 1
            · intro w hSw; (try dsimp only at hSw); obtain ⟨-, s0, s1, s2, s3, s4, s5, s6⟩ := hSw.out; go_simp; try with_reducible rfl
            try simp only [Act.put, List.getElem_toArray, List.getElem_cons_zero, List.getElem_cons_succ, List.setIfInBounds_toArray, List.set_cons_zero, List.set_cons_succ]
            refine wpAnyH_take (i := 6) (v := ?_) rfl (by kernel_rfl) (by kernel_rfl) (by kernel_rfl) (fun _ _ _ h => h) (Or.inl ⟨by rfl, ?_⟩) (by assumption) ?_
            rotate_left 1
            · intro w _; go_simp; try with_reducible rfl
            try simp only [Act.put, List.getElem_toArray, List.getElem_cons_zero, List.getElem_cons_succ, List.setIfInBounds_toArray, List.set_cons_zero, List.set_cons_succ]
            refine wpAnyH_take (i := 7) (v := ?_) rfl (by kernel_rfl) (by kernel_rfl) (by kernel_rfl) (fun _ _ _ h => h) (Or.inl ⟨by rfl, ?_⟩) (by assumption) ?_
            rotate_left 1
            · intro w _; go_simp; try with_reducible rfl
            try simp only [Act.put, List.getElem_toArray, List.getElem_cons_zero, List.getElem_cons_succ, List.setIfInBounds_toArray, List.set_cons_zero, List.set_cons_succ]
            refine wpAnyH_take (i := 8) (v := ?_) rfl (by kernel_rfl) (by kernel_rfl) (by kernel_rfl) (fun _ _ _ h => h) (Or.inl ⟨by rfl, ?_⟩) (by assumption) ?_
            rotate_left 1
            · intro w _; go_simp; try with_reducible rfl
            try simp only [Act.put, List.getElem_toArray, List.getElem_cons_zero, List.getElem_cons_succ, List.setIfInBounds_toArray, List.set_cons_zero, List.set_cons_succ]
            refine wpAnyH_take (i := 9) (v := ?_) rfl (by kernel_rfl) (by kernel_rfl) (by kernel_rfl) (fun _ _ _ h => h) (Or.inl ⟨by rfl, ?_⟩) (by assumption) ?_
            rotate_left 1
            · intro w _; go_simp; try with_reducible rfl
            try simp only [Act.put, List.getElem_toArray, List.getElem_cons_zero, List.getElem_cons_succ, List.setIfInBounds_toArray, List.set_cons_zero, List.set_cons_succ]
            refine wpAnyH_take (i := 10) (v := ?_) rfl (by kernel_rfl) (by kernel_rfl) (by kernel_rfl) (fun _ _ _ h => h) (Or.inl ⟨by rfl, ?_⟩) (by assumption) ?_
            rotate_left 1
            · intro w _; go_simp; try with_reducible rfl
            try simp only [Act.put, List.getElem_toArray, List.getElem_cons_zero, List.getElem_cons_succ, List.setIfInBounds_toArray, List.set_cons_zero, List.set_cons_succ]
            refine wpAnyH_take (i := 11) (v := ?_) rfl (by kernel_rfl) (by kernel_rfl) (by kernel_rfl) (fun _ _ _ h => h) (Or.inl ⟨by rfl, ?_⟩) (by assumption) ?_
            rotate_left 1
            · intro w _; go_simp; try with_reducible rfl
            try simp only [Act.put, List.getElem_toArray, List.getElem_cons_zero, List.getElem_cons_succ, List.setIfInBounds_toArray, List.set_cons_zero, List.set_cons_succ]
            refine wpAnyH_take (i := 12) (v := ?_) rfl (by kernel_rfl) (by kernel_rfl) (by kernel_rfl) (fun _ _ _ h => h) (Or.inl ⟨by rfl, ?_⟩) (by assumption) ?_
            rotate_left 1
            · intro w hSw; (try dsimp only at hSw); obtain ⟨-, s0, s1, s2, s3, s4, s5, s6⟩ := hSw.out; go_simp; try with_reducible rfl
            try simp only [Act.put, List.getElem_toArray, List.getElem_cons_zero, List.getElem_cons_succ, List.setIfInBounds_toArray, List.set_cons_zero, List.set_cons_succ]
            refine wpAnyH_take (i := 13) (v := ?_) rfl (by kernel_rfl) (by kernel_rfl) (by kernel_rfl) (fun _ _ _ h => h) (Or.inl ⟨by rfl, ?_⟩) (by assumption) ?_
            rotate_left 1
            · intro w _; go_simp; try with_reducible rfl
            try simp only [Act.put, List.getElem_toArray, List.getElem_cons_zero, List.getElem_cons_succ, List.setIfInBounds_toArray, List.set_cons_zero, List.set_cons_succ]
            refine wpAnyH_take (i := 14) (v := ?_) rfl (by kernel_rfl) (by kernel_rfl) (by kernel_rfl) (fun _ _ _ h => h) (Or.inl ⟨by rfl, ?_⟩) (by assumption) ?_
            rotate_left 1
            · intro w hSw; (try dsimp only at hSw); obtain ⟨-, s0, s1, s2, s3, s4, s5, s6⟩ := hSw.out; go_simp; try with_reducible rfl
            try simp only [Act.put, List.getElem_toArray, List.getElem_cons_zero, List.getElem_cons_succ, List.setIfInBounds_toArray, List.set_cons_zero, List.set_cons_succ]
            refine wpAnyH_take (i := 15) (v := ?_) rfl (by kernel_rfl) (by kernel_rfl) (by kernel_rfl) (fun _ _ _ h => h) (Or.inl ⟨by rfl, ?_⟩) (by assumption) ?_
            rotate_left 1
            · intro w _; go_simp; try with_reducible rfl
            try simp only [Act.put, List.getElem_toArray, List.getElem_cons_zero, List.getElem_cons_succ, List.setIfInBounds_toArray, List.set_cons_zero, List.set_cons_succ]
            refine wpAnyH_take (i := 16) (v := ?_) rfl (by kernel_rfl) (by kernel_rfl) (by kernel_rfl) (fun _ _ _ h => h) (Or.inl ⟨by rfl, ?_⟩) (by assumption) ?_
            rotate_left 1
            · intro w _; go_simp; try with_reducible rfl
            try simp only [Act.put, List.getElem_toArray, List.getElem_cons_zero, List.getElem_cons_succ, List.setIfInBounds_toArray, List.set_cons_zero, List.set_cons_succ]
            refine wpAnyH_take (i := 17) (v := ?_) rfl (by kernel_rfl) (by kernel_rfl) (by kernel_rfl) (fun _ _ _ h => h) (Or.inl ⟨by rfl, ?_⟩) (by assumption) ?_
            rotate_left 1
            · intro w _; go_simp; try with_reducible rfl
            try simp only [Act.put, List.getElem_toArray, List.getElem_cons_zero, List.getElem_cons_succ, List.setIfInBounds_toArray, List.set_cons_zero, List.set_cons_succ]
            refine wpAnyH_take (i := 18) (v := ?_) rfl (by kernel_rfl) (by kernel_rfl) (by kernel_rfl) (fun _ _ _ h => h) (Or.inl ⟨by rfl, ?_⟩) (by assumption) ?_
            rotate_left 1
            · intro w _; go_simp; try with_reducible rfl
            try simp only [Act.put, List.getElem_toArray, List.getElem_cons_zero, List.getElem_cons_succ, List.setIfInBounds_toArray, List.set_cons_zero, List.set_cons_succ]
            refine wpAnyH_take (i := 19) (v := ?_) rfl (by kernel_rfl) (by kernel_rfl) (by kernel_rfl) (fun _ _ _ h => h) (Or.inl ⟨by rfl, ?_⟩) (by assumption) ?_
            rotate_left 1
            · intro w _; go_simp; try with_reducible rfl
            try simp only [Act.put, List.getElem_toArray, List.getElem_cons_zero, List.getElem_cons_succ, List.setIfInBounds_toArray, List.set_cons_zero, List.set_cons_succ]
            refine wpAnyH_take (i := 20) (v := ?_) rfl (by kernel_rfl) (by kernel_rfl) (by kernel_rfl) (fun _ _ _ h => h) (Or.inl ⟨by rfl, ?_⟩) (by assumption) ?_
            rotate_left 1
            · intro w hSw; (try dsimp only at hSw); obtain ⟨-, s0, s1, s2, s3, s4, s5, s6⟩ := hSw.out; go_simp; try with_reducible rfl
            try simp only [Act.put, List.getElem_toArray, List.getElem_cons_zero, List.getElem_cons_succ, List.setIfInBounds_toArray, List.set_cons_zero, List.set_cons_succ]
            refine wpAnyH_take (i := 21) (v := ?_) rfl (by kernel_rfl) (by kernel_rfl) (by kernel_rfl) (fun _ _ _ h => h) (Or.inl ⟨by rfl, ?_⟩) (by assumption) ?_
            rotate_left 1
            · intro w _; go_simp; try with_reducible rfl
            try simp only [Act.put, List.getElem_toArray, List.getElem_cons_zero, List.getElem_cons_succ, List.setIfInBounds_toArray, List.set_cons_zero, List.set_cons_succ]
            refine wpAnyH_take (i := 22) (v := ?_) rfl (by kernel_rfl) (by kernel_rfl) (by kernel_rfl) (fun _ _ _ h => h) (Or.inl ⟨by rfl, ?_⟩) (by assumption) ?_
            rotate_left 1
            · intro w _; go_simp; try with_reducible rfl
            try simp only [Act.put, List.getElem_toArray, List.getElem_cons_zero, List.getElem_cons_succ, List.setIfInBounds_toArray, List.set_cons_zero, List.set_cons_succ]
            refine wpAnyH_take (i := 23) (v := ?_) rfl (by kernel_rfl) (by kernel_rfl) (by kernel_rfl) (fun _ _ _ h => h) (Or.inl ⟨by rfl, ?_⟩) (by assumption) ?_
            rotate_left 1
            · intro w hSw; (try dsimp only at hSw); obtain ⟨-, s0, s1, s2, s3, s4, s5, s6⟩ := hSw.out; go_simp; try with_reducible rfl
            try simp only [Act.put, List.getElem_toArray, List.getElem_cons_zero, List.getElem_cons_succ, List.setIfInBounds_toArray, List.set_cons_zero, List.set_cons_succ]
            refine wpAnyH_take (i := 24) (v := ?_) rfl (by kernel_rfl) (by kernel_rfl) (by kernel_rfl) (fun _ _ _ h => h) (Or.inl ⟨by rfl, ?_⟩) (by assumption) ?_
            rotate_left 1
            · intro w _; go_simp; try with_reducible rfl
            try simp only [Act.put, List.getElem_toArray, List.getElem_cons_zero, List.getElem_cons_succ, List.setIfInBounds_toArray, List.set_cons_zero, List.set_cons_succ]
            refine wpAnyH_take (i := 25) (v := ?_) rfl (by kernel_rfl) (by kernel_rfl) (by kernel_rfl) (fun _ _ _ h => h) (Or.inl ⟨by rfl, ?_⟩) (by assumption) ?_
            rotate_left 1
            · intro w _; go_simp; try with_reducible rfl
            try simp only [Act.put, List.getElem_toArray, List.getElem_cons_zero, List.getElem_cons_succ, List.setIfInBounds_toArray, List.set_cons_zero, List.set_cons_succ]
            refine wpAnyH_take (i := 26) (v := ?_) rfl (by kernel_rfl) (by kernel_rfl) (by kernel_rfl) (fun _ _ _ h => h) (Or.inl ⟨by rfl, ?_⟩) (by assumption) ?_
            rotate_left 1
            · intro w _; go_simp; try with_reducible rfl
            try simp only [Act.put, List.getElem_toArray, List.getElem_cons_zero, List.getElem_cons_succ, List.setIfInBounds_toArray, List.set_cons_zero, List.set_cons_succ]
            refine wpAnyH_take (i := 27) (v := ?_) rfl (by kernel_rfl) (by kernel_rfl) (by kernel_rfl) (fun _ _ _ h => h) (Or.inl ⟨by rfl, ?_⟩) (by assumption) ?_
            rotate_left 1
            · intro w _; go_simp; try with_reducible rfl
            try simp only [Act.put, List.getElem_toArray, List.getElem_cons_zero, List.getElem_cons_succ, List.setIfInBounds_toArray, List.set_cons_zero, List.set_cons_succ]
            refine wpAnyH_take (i := 28) (v := ?_) rfl (by kernel_rfl) (by kernel_rfl) (by kernel_rfl) (fun _ _ _ h => h) (Or.inl ⟨by rfl, ?_⟩) (by assumption) ?_
            rotate_left 1
            · intro w _; go_simp; try with_reducible rfl
            try simp only [Act.put, List.getElem_toArray, List.getElem_cons_zero, List.getElem_cons_succ, List.setIfInBounds_toArray, List.set_cons_zero, List.set_cons_succ]
            refine wpAnyH_take (i := 29) (v := ?_) rfl (by kernel_rfl) (by kernel_rfl) (by kernel_rfl) (fun _ _ _ h => h) (Or.inl ⟨by rfl, ?_⟩) (by assumption) ?_
            rotate_left 1
            · intro w hSw; (try dsimp only at hSw); obtain ⟨-, s0, s1, s2, s3, s4, s5, s6⟩ := hSw.out; go_simp; try with_reducible rfl
            try simp only [Act.put, List.getElem_toArray, List.getElem_cons_zero, List.getElem_cons_succ, List.setIfInBounds_toArray, List.set_cons_zero, List.set_cons_succ]
            refine wpAnyH_take (i := 30) (v := ?_) rfl (by kernel_rfl) (by kernel_rfl) (by kernel_rfl) (fun _ _ _ h => h) (Or.inl ⟨by rfl, ?_⟩) (by assumption) ?_
            rotate_left 1
            · intro w _; go_simp; try with_reducible rfl
            try simp only [Act.put, List.getElem_toArray, List.getElem_cons_zero, List.getElem_cons_succ, List.setIfInBounds_toArray, List.set_cons_zero, List.set_cons_succ]
            refine wpAnyH_take (i := 31) (v := ?_) rfl (by kernel_rfl) (by kernel_rfl) (by kernel_rfl) (fun _ _ _ h => h) (Or.inl ⟨by rfl, ?_⟩) (by assumption) ?_
            rotate_left 1
            · intro w _; go_simp; try with_reducible rfl
            try simp only [Act.put, List.getElem_toArray, List.getElem_cons_zero, List.getElem_cons_succ, List.setIfInBounds_toArray, List.set_cons_zero, List.set_cons_succ]
            refine wpAnyH_take (i := 32) (v := ?_) rfl (by kernel_rfl) (by kernel_rfl) (by kernel_rfl) (fun _ _ _ h => h) (Or.inl ⟨by rfl, ?_⟩) (by assumption) ?_
            rotate_left 1
            · intro w hSw; (try dsimp only at hSw); obtain ⟨-, s0, s1, s2, s3, s4, s5, s6⟩ := hSw.out; go_simp; try with_reducible rfl
            try simp only [Act.put, List.getElem_toArray, List.getElem_cons_zero, List.getElem_cons_succ, List.setIfInBounds_toArray, List.set_cons_zero, List.set_cons_succ]
            refine wpAnyH_take (i := 33) (v := ?_) rfl (by kernel_rfl) (by kernel_rfl) (by kernel_rfl) (fun _ _ _ h => h) (Or.inl ⟨by rfl, ?_⟩) (by assumption) ?_
            rotate_left 1
            · intro w _; go_simp; try with_reducible rfl
            try simp only [Act.put, List.getElem_toArray, List.getElem_cons_zero, List.getElem_cons_succ, List.setIfInBounds_toArray, List.set_cons_zero, List.set_cons_succ]
            refine wpAnyH_take (i := 34) (v := ?_) rfl (by kernel_rfl) (by kernel_rfl) (by kernel_rfl) (fun _ _ _ h => h) (Or.inl ⟨by rfl, ?_⟩) (by assumption) ?_
            rotate_left 1
            · intro w hSw; (try dsimp only at hSw); obtain ⟨-, s0, s1, s2, s3, s4, s5, s6⟩ := hSw.out; go_simp; try with_reducible rfl
            try simp only [Act.put, List.getElem_toArray, List.getElem_cons_zero, List.getElem_cons_succ, List.setIfInBounds_toArray, List.set_cons_zero, List.set_cons_succ]
            refine wpAnyH_take (i := 35) (v := ?_) rfl (by kernel_rfl) (by kernel_rfl) (by kernel_rfl) (fun _ _ _ h => h) (Or.inl ⟨by rfl, ?_⟩) (by assumption) ?_
            rotate_left 1
            · intro w _; go_simp; try with_reducible rfl
            try simp only [Act.put, List.getElem_toArray, List.getElem_cons_zero, List.getElem_cons_succ, List.setIfInBounds_toArray, List.set_cons_zero, List.set_cons_succ]
            refine wpAnyH_take (i := 36) (v := ?_) rfl (by kernel_rfl) (by kernel_rfl) (by kernel_rfl) (fun _ _ _ h => h) (Or.inl ⟨by rfl, ?_⟩) (by assumption) ?_
            rotate_left 1
            · intro w _; go_simp; try with_reducible rfl
            try simp only [Act.put, List.getElem_toArray, List.getElem_cons_zero, List.getElem_cons_succ, List.setIfInBounds_toArray, List.set_cons_zero, List.set_cons_succ]
            refine wpAnyH_take (i := 37) (v := ?_) rfl (by kernel_rfl) (by kernel_rfl) (by kernel_rfl) (fun _ _ _ h => h) (Or.inl ⟨by rfl, ?_⟩) (by assumption) ?_
            rotate_left 1
            · intro w _; go_simp; try with_reducible rfl
            try simp only [Act.put, List.getElem_toArray, List.getElem_cons_zero, List.getElem_cons_succ, List.setIfInBounds_toArray, List.set_cons_zero, List.set_cons_succ]
            refine wpAnyH_take (i := 38) (v := ?_) rfl (by kernel_rfl) (by kernel_rfl) (by kernel_rfl) (fun _ _ _ h => h) (Or.inl ⟨by rfl, ?_⟩) (by assumption) ?_
            rotate_left 1
            · intro w _; go_simp; try with_reducible rfl
            try simp only [Act.put, List.getElem_toArray, List.getElem_cons_zero, List.getElem_cons_succ, List.setIfInBounds_toArray, List.set_cons_zero, List.set_cons_succ]
            refine wpAnyH_take (i := 39) (v := ?_) rfl (by kernel_rfl) (by kernel_rfl) (by kernel_rfl) (fun _ _ _ h => h) (Or.inl ⟨by rfl, ?_⟩) (by assumption) ?_
            rotate_left 1
            · intro w _; go_simp; try with_reducible rfl
            try simp only [Act.put, List.getElem_toArray, List.getElem_cons_zero, List.getElem_cons_succ, List.setIfInBounds_toArray, List.set_cons_zero, List.set_cons_succ]
            refine wpAnyH_take (i := 40) (v := ?_) rfl (by kernel_rfl) (by kernel_rfl) (by kernel_rfl) (fun _ _ _ h => h) (Or.inl ⟨by rfl, ?_⟩) (by assumption) ?_
            rotate_left 1
            · intro w hSw; (try dsimp only at hSw); obtain ⟨-, s0, s1, s2, s3, s4, s5, s6⟩ := hSw.out; go_simp; try with_reducible rfl
            try simp only [Act.put, List.getElem_toArray, List.getElem_cons_zero, List.getElem_cons_succ, List.setIfInBounds_toArray, List.set_cons_zero, List.set_cons_succ]
            refine wpAnyH_take (i := 41) (v := ?_) rfl (by kernel_rfl) (by kernel_rfl) (by kernel_rfl) (fun _ _ _ h => h) (Or.inl ⟨by rfl, ?_⟩) (by assumption) ?_
            rotate_left 1
            · intro w _; go_simp; try with_reducible rfl
            try simp only [Act.put, List.getElem_toArray, List.getElem_cons_zero, List.getElem_cons_succ, List.setIfInBounds_toArray, List.set_cons_zero, List.set_cons_succ]
            refine wpAnyH_take (i := 42) (v := ?_) rfl (by kernel_rfl) (by kernel_rfl) (by kernel_rfl) (fun _ _ _ h => h) (Or.inl ⟨by rfl, ?_⟩) (by assumption) ?_
            rotate_left 1
            · intro w _; go_simp; try with_reducible rfl
            try simp only [Act.put, List.getElem_toArray, List.getElem_cons_zero, List.getElem_cons_succ, List.setIfInBounds_toArray, List.set_cons_zero, List.set_cons_succ]
            refine wpAnyH_take (i := 43) (v := ?_) rfl (by kernel_rfl) (by kernel_rfl) (by kernel_rfl) (fun _ _ _ h => h) (Or.inl ⟨by rfl, ?_⟩) (by assumption) ?_
            rotate_left 1
            · intro w hSw; (try dsimp only at hSw); obtain ⟨-, s0, s1, s2, s3, s4, s5, s6⟩ := hSw.out; go_simp; try with_reducible rfl
            try simp only [Act.put, List.getElem_toArray, List.getElem_cons_zero, List.getElem_cons_succ, List.setIfInBounds_toArray, List.set_cons_zero, List.set_cons_succ]
            refine wpAnyH_take (i := 44) (v := ?_) rfl (by kernel_rfl) (by kernel_rfl) (by kernel_rfl) (fun _ _ _ h => h) (Or.inl ⟨by rfl, ?_⟩) (by assumption) ?_
            rotate_left 1
            · intro w _; go_simp; try with_reducible rfl
            try simp only [Act.put, List.getElem_toArray, List.getElem_cons_zero, List.getElem_cons_succ, List.setIfInBounds_toArray, List.set_cons_zero, List.set_cons_succ]
            refine wpAnyH_take (i := 45) (v := ?_) rfl (by kernel_rfl) (by kernel_rfl) (by kernel_rfl) (fun _ _ _ h => h) (Or.inl ⟨by rfl, ?_⟩) (by assumption) ?_
            rotate_left 1
            · intro w _; go_simp; try with_reducible rfl
            try simp only [Act.put, List.getElem_toArray, List.getElem_cons_zero, List.getElem_cons_succ, List.setIfInBounds_toArray, List.set_cons_zero, List.set_cons_succ]
            refine wpAnyH_take (i := 46) (v := ?_) rfl (by kernel_rfl) (by kernel_rfl) (by kernel_rfl) (fun _ _ _ h => h) (Or.inl ⟨by rfl, ?_⟩) (by assumption) ?_
            rotate_left 1
            · intro w _; go_simp; try with_reducible rfl
            try simp only [Act.put, List.getElem_toArray, List.getElem_cons_zero, List.getElem_cons_succ, List.setIfInBounds_toArray, List.set_cons_zero, List.set_cons_succ]
            refine wpAnyH_take (i := 47) (v := ?_) rfl (by kernel_rfl) (by kernel_rfl) (by kernel_rfl) (fun _ _ _ h => h) (Or.inl ⟨by rfl, ?_⟩) (by assumption) ?_
            rotate_left 1
            · intro w _; go_simp; try with_reducible rfl
            try simp only [Act.put, List.getElem_toArray, List.getElem_cons_zero, List.getElem_cons_succ, List.setIfInBounds_toArray, List.set_cons_zero, List.set_cons_succ]
            refine wpAnyH_take (i := 48) (v := ?_) rfl (by kernel_rfl) (by kernel_rfl) (by kernel_rfl) (fun _ _ _ h => h) (Or.inl ⟨by rfl, ?_⟩) (by assumption) ?_
            rotate_left 1
            · intro w _; go_simp; try with_reducible rfl
            try simp only [Act.put, List.getElem_toArray, List.getElem_cons_zero, List.getElem_cons_succ, List.setIfInBounds_toArray, List.set_cons_zero, List.set_cons_succ]
            refine wpAnyH_take (i := 49) (v := ?_) rfl (by kernel_rfl) (by kernel_rfl) (by kernel_rfl) (fun _ _ _ h => h) (Or.inl ⟨by rfl, ?_⟩) (by assumption) ?_
            rotate_left 1
            · intro w hSw; (try dsimp only at hSw); obtain ⟨-, s0, s1, s2, s3, s4, s5, s6⟩ := hSw.out; go_simp; try with_reducible rfl
            try simp only [Act.put, List.getElem_toArray, List.getElem_cons_zero, List.getElem_cons_succ, List.setIfInBounds_toArray, List.set_cons_zero, List.set_cons_succ]
            refine wpAnyH_take (i := 50) (v := ?_) rfl (by kernel_rfl) (by kernel_rfl) (by kernel_rfl) (fun _ _ _ h => h) (Or.inl ⟨by rfl, ?_⟩) (by assumption) ?_
            rotate_left 1
            · intro w _; go_simp; try with_reducible rfl
            try simp only [Act.put, List.getElem_toArray, List.getElem_cons_zero, List.getElem_cons_succ, List.setIfInBounds_toArray, List.set_cons_zero, List.set_cons_succ]
            refine wpAnyH_take (i := 51) (v := ?_) rfl (by kernel_rfl) (by kernel_rfl) (by kernel_rfl) (fun _ _ _ h => h) (Or.inl ⟨by rfl, ?_⟩) (by assumption) ?_
            rotate_left 1
            · intro w _; go_simp; try with_reducible rfl
            try simp only [Act.put, List.getElem_toArray, List.getElem_cons_zero, List.getElem_cons_succ, List.setIfInBounds_toArray, List.set_cons_zero, List.set_cons_succ]
            refine wpAnyH_take (i := 52) (v := ?_) rfl (by kernel_rfl) (by kernel_rfl) (by kernel_rfl) (fun _ _ _ h => h) (Or.inl ⟨by rfl, ?_⟩) (by assumption) ?_
            rotate_left 1
            · intro w hSw; (try dsimp only at hSw); obtain ⟨-, s0, s1, s2, s3, s4, s5, s6⟩ := hSw.out; go_simp; try with_reducible rfl
            try simp only [Act.put, List.getElem_toArray, List.getElem_cons_zero, List.getElem_cons_succ, List.setIfInBounds_toArray, List.set_cons_zero, List.set_cons_succ]
            refine wpAnyH_take (i := 53) (v := ?_) rfl (by kernel_rfl) (by kernel_rfl) (by kernel_rfl) (fun _ _ _ h => h) (Or.inl ⟨by rfl, ?_⟩) (by assumption) ?_
            rotate_left 1
            · intro w _; go_simp; try with_reducible rfl
            try simp only [Act.put, List.getElem_toArray, List.getElem_cons_zero, List.getElem_cons_succ, List.setIfInBounds_toArray, List.set_cons_zero, List.set_cons_succ]
            refine wpAnyH_take (i := 54) (v := ?_) rfl (by kernel_rfl) (by kernel_rfl) (by kernel_rfl) (fun _ _ _ h => h) (Or.inl ⟨by rfl, ?_⟩) (by assumption) ?_
            rotate_left 1
            · intro w hSw; (try dsimp only at hSw); obtain ⟨-, s0, s1, s2, s3, s4, s5, s6⟩ := hSw.out; go_simp; try with_reducible rfl
            try simp only [Act.put, List.getElem_toArray, List.getElem_cons_zero, List.getElem_cons_succ, List.setIfInBounds_toArray, List.set_cons_zero, List.set_cons_succ]
            refine wpAnyH_take (i := 55) (v := ?_) rfl (by kernel_rfl) (by kernel_rfl) (by kernel_rfl) (fun _ _ _ h => h) (Or.inl ⟨by rfl, ?_⟩) (by assumption) ?_
            rotate_left 1
            · intro w _; go_simp; try with_reducible rfl
            try simp only [Act.put, List.getElem_toArray, List.getElem_cons_zero, List.getElem_cons_succ, List.setIfInBounds_toArray, List.set_cons_zero, List.set_cons_succ]
            refine wpAnyH_take (i := 56) (v := ?_) rfl (by kernel_rfl) (by kernel_rfl) (by kernel_rfl) (fun _ _ _ h => h) (Or.inl ⟨by rfl, ?_⟩) (by assumption) ?_
            rotate_left 1
            · intro w _; go_simp; try with_reducible rfl
            try simp only [Act.put, List.getElem_toArray, List.getElem_cons_zero, List.getElem_cons_succ, List.setIfInBounds_toArray, List.set_cons_zero, List.set_cons_succ]
            refine wpAnyH_done (by kernel_rfl) ?_ _
            clear hHeld
            have HBW7 : Hid (Below w3.heap.size w3 w6.drew) := Lib.hid (below_draws HBW5.out 1)
            have HC7 : Hid (∀ w', Below w6.drew.heap.size w6.drew w' → w'.cell? ⟨D, 0, none⟩ = some (.int .i64 f) ∧ w'.cell? ⟨D, 1, none⟩ = some (.int .i64 t)) := Lib.hid fun w' hb => ⟨(hb.cell (cell_lt (w := w6.drew) q0)).trans q0, (hb.cell (cell_lt (w := w6.drew) q1)).trans q1⟩
            clear j1 j2 j3 j4 q0 q1 q2 SR HB5 HBW5
            generalize w6.drew = w7 at HBW7 HC7 ⊢
            go_wp2_with fail
            go_loopw [15] (fun kv wq => ∃ k : Nat, k ≤ i ∧ kv = .int .i64 k ∧ Hid (Below w7.heap.size w7 wq)) (fun kv _ => i - (intOf kv).toNat)
            case atStart => exact ⟨0, by omega, rfl, Lib.hid (Below.refl _ _)⟩
            case round =>
              obtain ⟨k, hk, rfl, HBX⟩ := hrel
              by_cases h4 : k < i
              · obtain ⟨⟨f2, t2, z2⟩, hy⟩ : ∃ x, FL[k]? = some x := ⟨_, List.getElem?_eq_getElem (by rw [HN.out]; omega)⟩
                obtain ⟨g1, g2, -⟩ := HWl.out.mem _ (List.mem_of_getElem? hy)
                simp only at g1 g2
                have hff : f2 < f := by
                  have hs := HWl.out.sorted
                  rw [List.pairwise_iff_getElem] at hs
                  obtain ⟨u1, u2⟩ := List.getElem?_eq_some_iff.1 hy
                  obtain ⟨v1, v2⟩ := List.getElem?_eq_some_iff.1 HX.out
                  have := hs k i u1 v1 h4
                  rw [u2, v2] at this
                  exact this
                have hnest : f < t2 → t ≤ t2 := fun hlt => by
                  rcases HWl.out.nest _ (List.mem_of_getElem? HX.out) _ (List.mem_of_getElem? hy) (by simp; omega) (by simpa using hlt) (by simp; omega) with ⟨_, hh⟩ | ⟨hh, _⟩
                  · rw [wi9_iff] at hh
                    simp at hh
                    omega
                  · rw [wi9_iff] at hh
                    simp at hh
                    omega
                obtain ⟨ad2, hA2, k1, k2, k3⟩ := (HJ.out.keep (below_on HBW7.out HBX.out)).cl9 hy
                injection hA2 with hA2
                subst hA2
                obtain ⟨y0, y1⟩ := HC7.out _ HBX.out
                have HBX2 : Hid (Below w7.heap.size w7 (wr.alloc (.cells #[.int .i64 f2, .int .i64 t2, .int .i64 z2] 40))) := Lib.hid (below_on HBX.out new1)
                have hDs := cell_lt y0
                clear hy
                by_cases h5 : f < t2
                · have h6 := hnest h5
                  clear hnest
                  go_wp2_with fail
                  go_roundw
                  case rel => exact ⟨k + 1, by omega, by go_num, HBX2⟩
                  case measure => simp [intOf]; omega
                · clear hnest
                  go_wp2_with fail
                  go_roundw
                  case rel => exact ⟨k + 1, by omega, by go_num, HBX2⟩
                  case measure => simp [intOf]; omega
              · obtain rfl : i = k := by omega
                have HBY : Hid (Below w3.heap.size w3 wr) := Lib.hid (below_on HBW7.out HBX.out)
                go_wp2_with fail
                go_roundw
                case rel => exact ⟨i + 1, by omega, by go_num, HBY⟩
                case measure => simp [intOf]; omega
          · obtain rfl : i = na := by omega
            go_wp2_with fail
            go_ret
            exact ⟨rfl, below_on HB3.out HBW.out⟩
  · have hne : (E != 0) = true := by simpa using h0
    have hq0 : q = 0 := by rw [← HQ.out, ← HEF.out.2.2, flT9, if_neg (by rw [HEF.out.1]; exact h0)]; rfl
    subst hq0
    go_wp2_with fail
    go_ret
    exact ⟨rfl, HB3.out⟩
end Go.Proofs.Ytfchdggefedgoaa
