/-
  The reference's all: what loops OpAgains make.
-/
import Derived.Test.YtfchdggefedgoaaFk
import Derived.Test.YtfchdggefedgoaaFs
namespace Go.Proofs.Ytfchdggefedgoaa
open Go.RowKit
set_option maxRecDepth 100000
set_option linter.unusedSimpArgs false
set_option linter.unusedVariables false

theorem agk9_succ (l : List Ins) (f j : Nat) : agk9 l f (j + 1) = agk9 l f j ++ (if isA9 l f j = true then [j] else []) := by
  simp [agk9, List.range_succ, List.filter_append, List.filter_cons]
theorem lpk9_succ (l : List Ins) (f j : Nat) : lpk9 l f (j + 1) = lpk9 l f j ++ (if isA9 l f j = true then [(f, j, iA9 l f)] else []) := by
  rw [lpk9, agk9_succ, lpk9, List.map_append]
  split <;> simp
theorem lpk9_len (l : List Ins) (f j : Nat) : (lpk9 l f j).length = (agk9 l f j).length := by simp [lpk9]
theorem agk9_le (l : List Ins) (f j : Nat) : (agk9 l f j).length ≤ j := by
  have := List.length_filter_le (isA9 l f) (List.range j)
  simpa [agk9] using this
theorem all9_one {l : List Ins} {f : Nat} (ho : iO9 l f = 28) (h : okF9 l f = true) : ∃ q, agk9 l f l.length = [q] ∧ f ≤ q := by
  rw [okF9, if_pos ho, Bool.and_eq_true, beq_iff_eq, decide_eq_true_eq] at h
  obtain ⟨q, hq⟩ := List.length_eq_one_iff.1 h.1
  refine ⟨q, hq, ?_⟩
  have := h.2
  rw [hq] at this
  simpa using this
theorem okL9_noA {l : List Ins} {f : Nat} (hf : f < l.length) (h : okA9 l f = false) : okL9 l = false := by
  cases hb : okL9 l with
  | false => rfl
  | true =>
    rw [okL9, Bool.and_eq_true, List.all_eq_true, List.all_eq_true] at hb
    rw [hb.2 f (List.mem_range.2 hf)] at h
    cases h
theorem okL9_no {l : List Ins} {f : Nat} (hf : f < l.length) (h : okF9 l f = false) : okL9 l = false := by
  cases hb : okL9 l with
  | false => rfl
  | true =>
    rw [okL9, Bool.and_eq_true, List.all_eq_true, List.all_eq_true] at hb
    rw [hb.1 f (List.mem_range.2 hf)] at h
    cases h
set_option maxHeartbeats 8000000 in
theorem all9_v (A : Option Addr) (c m : Nat) (L : List Ins) (w : World) (hr : Ri w A c L) (hm : L.length = m) (hl : m ≤ 200) (hnn : ∀ x ∈ L, 0 ≤ x.2.1) :
    Calls Try.prog 22 #[.slice A m c] w fun r w' => ∃ A' c' n', r = .returned (.tuple #[.slice A' n' c', .bool (okL9 L)]) ∧ (okL9 L = true → n' = (lpU9 L m).length ∧ w'.ownsRow w.heap.size 41 3 (.slice A' n' c') n' (cej (lpU9 L m))) ∧ Below w.heap.size w w' := by
  have HLm := Lib.hid hm
  have HR := Lib.hid hr
  have HN := Lib.hid hnn
  clear hr hm hnn
  obtain ⟨OK, hOK⟩ : ∃ b, okL9 L = b := ⟨_, rfl⟩
  have HOK := Lib.hid hOK
  rw [hOK]
  clear hOK
  go_enter Try.func22, Try.ntmps22
  go_wp2_with fail
  go_loopw [4, 5] (fun sv kv wr => ∃ (k n : Nat) (A1 : Option Addr) (c1 : Nat), k ≤ m ∧ n ≤ k ∧ kv = .int .i64 k ∧ sv = .slice A1 n c1 ∧ Hid ((List.range k).all (okF9 L) = true) ∧ Hid (n = (lpU9 L k).length ∧ wr.ownsRow w.heap.size 41 3 (.slice A1 n c1) n (cej (lpU9 L k))) ∧ Hid (Below w.heap.size w wr)) (fun _ kv _ => m - (intOf kv).toNat)
  case atStart => exact ⟨0, 0, none, 0, by omega, by omega, rfl, rfl, Lib.hid rfl, Lib.hid ⟨rfl, World.ownsRow_nil _ _ _ _⟩, Lib.hid (Below.refl _ _)⟩
  case round =>
    obtain ⟨k, n, A1, c1, hk, hn, rfl, rfl, HF, HO, HB⟩ := hrel
    by_cases h1 : k < m
    · obtain ⟨⟨o, a, z⟩, hx⟩ : ∃ x, L[k]? = some x := ⟨_, List.getElem?_eq_getElem (by rw [HLm.out]; exact h1)⟩
      have HXO : Hid (iO9 L k = o ∧ iA9 L k = a) := Lib.hid ⟨by simp [iO9, hx], by simp [iA9, hx]⟩
      obtain ⟨ad, hA, k1, k2, k3⟩ := (HR.out.keep HB.out).at_ (i := k) (by rw [HLm.out]; exact h1)
      have hxe : L[k]'(by rw [HLm.out]; exact h1) = (o, a, z) := by
        have h := List.getElem?_eq_getElem (l := L) (i := k) (by rw [HLm.out]; exact h1)
        rw [hx] at h
        injection h with h
        exact h.symm
      rw [hxe] at k1 k2 k3
      subst hA
      have hx0 : Hid (L[k]? = some (o, a, z)) := Lib.hid hx
      clear hxe hx
      by_cases h28 : o = 28
      · subst h28
        have k4 : Hid (L[k]? = some (28, a, z)) := hx0
        go_wp2_with fail
        clear k1 k2 k3
        go_loopw [4, 6, 7] (fun sv mv jv wq => ∃ (j d n2 : Nat) (A2 : Option Addr) (c2 : Nat), j ≤ m ∧ d ≤ j ∧ n2 = n + d ∧ jv = .int .i64 j ∧ mv = .int .i64 d ∧ sv = .slice A2 n2 c2 ∧ Hid (d = (agk9 L k j).length) ∧ Hid (wq.ownsRow w.heap.size 41 3 (.slice A2 n2 c2) n2 (cej (lpU9 L k ++ lpk9 L k j))) ∧ Hid (Below w.heap.size w wq)) (fun _ _ jv _ => m - (intOf jv).toNat)
        case atStart => exact ⟨0, 0, n, A1, c1, by omega, by omega, by omega, rfl, rfl, rfl, Lib.hid rfl, Lib.hid (by have := HO.out.2; simpa [lpk9, agk9] using this), HB⟩
        case round =>
          obtain ⟨j, d, n2, A2, c2, hj, hd, rfl, rfl, rfl, rfl, HD, HO2, HB2⟩ := hrel
          by_cases hjm : j < m
          · obtain ⟨⟨o, b, z2⟩, hx2⟩ : ∃ x, L[j]? = some x := ⟨_, List.getElem?_eq_getElem (by rw [HLm.out]; exact hjm)⟩
            have HXJ : Hid (iO9 L j = o ∧ iA9 L j = b) := Lib.hid ⟨by simp [iO9, hx2], by simp [iA9, hx2]⟩
            obtain ⟨ad', hA', q1, q2, q3⟩ := (HR.out.keep HB2.out).at_ (i := j) (by rw [HLm.out]; exact hjm)
            have hxe2 : L[j]'(by rw [HLm.out]; exact hjm) = (o, b, z2) := by
              have h := List.getElem?_eq_getElem (l := L) (i := j) (by rw [HLm.out]; exact hjm)
              rw [hx2] at h
              injection h with h
              exact h.symm
            rw [hxe2] at q1 q2 q3
            injection hA' with hA'
            subst hA'
            obtain ⟨ad'', hA'', r1, r2, r3⟩ := (HR.out.keep HB2.out).at_ (i := k) (by rw [HLm.out]; exact h1)
            have hxe3 : L[k]'(by rw [HLm.out]; exact h1) = (28, a, z) := by
              have h := List.getElem?_eq_getElem (l := L) (i := k) (by rw [HLm.out]; exact h1)
              rw [k4.out] at h
              injection h with h
              exact h.symm
            rw [hxe3] at r1 r2 r3
            injection hA'' with hA''
            subst hA''
            clear hxe2 hxe3 hx2
            by_cases hi : isA9 L k j = true
            · have hob : o = 29 ∧ b = (k : Int) := by rw [isA9, Bool.and_eq_true, beq_iff_eq, beq_iff_eq, HXJ.out.1, HXJ.out.2] at hi; exact hi
              obtain ⟨rfl, rfl⟩ := hob
              have HD2 : Hid (d + 1 = (agk9 L k (j + 1)).length) := Lib.hid (by rw [agk9_succ, if_pos hi, List.length_append, HD.out]; rfl)
              have HK2 : Hid (lpU9 L k ++ (lpk9 L k j ++ [(k, j, a)]) = lpU9 L k ++ lpk9 L k (j + 1)) := Lib.hid (by rw [lpk9_succ, if_pos hi, HXO.out.2])
              have RN := Lib.hid (rj_new wr ((k, j, a) : Lp) trivial)
              have ON := Lib.hid (own_below HO2.out (new1 (a := .cells #[.int .i64 k, .int .i64 j, .int .i64 a] 41)) (Nat.le_refl _))
              have BN := Lib.hid (HB2.out.trans ((new1 (a := .cells #[.int .i64 k, .int .i64 j, .int .i64 a] 41)).mono HB2.out.size))
              go_wp2_with (at_builtin; refine wpList_append_rj _ rfl (.tmp 42) (.tmp 51) rfl w.heap.size _ (n + d) (lpU9 L k ++ lpk9 L k j) rfl ON.out _ 1 1 [(k, j, a)] rfl RN.out rfl (by omega) BN.out.size ?_)
              intro A9 c9 w9 ho hg
              have O9 := Lib.hid ho
              have B9 := Lib.hid (BN.out.trans (hg.mono (Nat.le_refl _)))
              clear ho hg
              go_wp2_with fail
              go_roundw
              case rel => exact ⟨j + 1, d + 1, n + d + 1, A9, c9, by omega, by omega, by omega, by go_num, by go_num, rfl, HD2, Lib.hid (by have := O9.out; rwa [HK2.out] at this), B9⟩
              case measure => simp [intOf]; omega
            · have HD2 : Hid (d = (agk9 L k (j + 1)).length) := Lib.hid (by rw [agk9_succ, if_neg hi, List.append_nil, HD.out])
              have HK2 : Hid (lpk9 L k (j + 1) = lpk9 L k j) := Lib.hid (by rw [lpk9_succ, if_neg hi, List.append_nil])
              have HR2 : Hid (∃ A2' c2', A2' = A2 ∧ c2' = c2) := Lib.hid ⟨_, _, rfl, rfl⟩
              by_cases ho : o = 29
              · subst ho
                have hbk : ¬ b = (k : Int) := fun h => hi (by rw [isA9, HXJ.out.1, HXJ.out.2, h]; simp)
                have ebk : (b == (k : Int)) = false := by simpa using hbk
                go_wp2_with fail
                go_roundw
                case rel => exact ⟨j + 1, d, n + d, A2, c2, by omega, by omega, by omega, by go_num, rfl, rfl, HD2, Lib.hid (by rw [HK2.out]; exact HO2.out), HB2⟩
                case measure => simp [intOf]; omega
              · have eo : (o == 29) = false := by simpa using ho
                go_wp2_with fail
                go_roundw
                case rel => exact ⟨j + 1, d, n + d, A2, c2, by omega, by omega, by omega, by go_num, rfl, rfl, HD2, Lib.hid (by rw [HK2.out]; exact HO2.out), HB2⟩
                case measure => simp [intOf]; omega
          · obtain rfl : j = m := by omega
            have HD3 := Lib.hid (HD.out)
            by_cases hd1 : d = 1
            · subst hd1
              obtain ⟨q, hq⟩ : ∃ q, agk9 L k j = [q] := List.length_eq_one_iff.1 HD.out.symm
              have HQ := Lib.hid hq
              have RJ := Lib.hid (Rj.of_own HO2.out (fun _ _ => trivial))
              obtain ⟨ae, hAe, t1, t2, t3⟩ := RJ.out.1.at_ (i := n) (by rw [← RJ.out.2]; omega)
              have hle : (lpU9 L k ++ lpk9 L k j)[n]'(by rw [← RJ.out.2]; omega) = (k, q, a) := by
                have e1 : lpU9 L k ++ lpk9 L k j = lpU9 L k ++ [(k, q, a)] := by rw [lpk9, hq, HXO.out.2]; rfl
                have e2 : (lpU9 L k ++ lpk9 L k j)[n]? = some (k, q, a) := by rw [e1, HO.out.1]; simp
                rw [List.getElem?_eq_getElem (by rw [← RJ.out.2]; omega)] at e2
                injection e2
              rw [hle] at t1 t2 t3
              subst hAe
              clear hle hq
              by_cases hqk : q < k
              · have HNO : Hid (OK = false) := Lib.hid (by
                  rw [← HOK.out]
                  refine okL9_no (by rw [HLm.out]; exact h1) ?_
                  rw [okF9, if_pos HXO.out.1, HLm.out, HQ.out]
                  simp; omega)
                go_wp2_with fail
                go_ret2
                exact ⟨none, 0, 0, by rw [HNO.out]; rfl, (fun h => by rw [HNO.out] at h; cases h), HB2.out⟩
              · have HF2 : Hid ((List.range (k + 1)).all (okF9 L) = true) := Lib.hid (by
                  rw [List.range_succ, List.all_append, HF.out]
                  simp only [List.all_cons, List.all_nil, Bool.and_true, Bool.true_and]
                  rw [okF9, if_pos HXO.out.1, HLm.out, HQ.out]
                  simp; omega)
                have HU2 : Hid (lpU9 L (k + 1) = lpU9 L k ++ lpk9 L k j) := Lib.hid (by rw [lpU9_succ, lp19, if_pos HXO.out.1, HLm.out])
                have HL2 : Hid (n + 1 = (lpU9 L (k + 1)).length) := Lib.hid (by rw [HU2.out]; exact RJ.out.2)
                go_wp2_with fail
                go_roundw
                case rel => exact ⟨k + 1, n + 1, some ae, c2, by omega, by omega, by go_num, rfl, HF2, Lib.hid ⟨HL2.out, by rw [HU2.out]; exact HO2.out⟩, HB2⟩
                case measure => simp [intOf]; omega
            · have HNO : Hid (OK = false) := Lib.hid (by
                rw [← HOK.out]
                refine okL9_no (by rw [HLm.out]; exact h1) ?_
                rw [okF9, if_pos HXO.out.1, HLm.out, ← HD3.out]
                have : (d == 1) = false := by simpa using hd1
                rw [this]; rfl)
              have hd2 : ((d : Int) != 1) = true := by simp; omega
              go_wp2_with fail
              go_ret2
              exact ⟨none, 0, 0, by rw [HNO.out]; rfl, (fun h => by rw [HNO.out] at h; cases h), HB2.out⟩
      · have e28 : (o != 28) = true := by simpa using h28
        have HF2 : Hid ((List.range (k + 1)).all (okF9 L) = true) := Lib.hid (by rw [List.range_succ, List.all_append, HF.out]; simp [okF9, HXO.out.1, h28])
        have HO2 : Hid (lpU9 L (k + 1) = lpU9 L k) := Lib.hid (by rw [lpU9_succ, lp19, if_neg (by rw [HXO.out.1]; exact h28), List.append_nil])
        go_wp2_with fail
        go_roundw
        case rel => exact ⟨k + 1, n, A1, c1, by omega, by omega, by go_num, rfl, HF2, Lib.hid (by rw [HO2.out]; exact HO.out), HB⟩
        case measure => simp [intOf]; omega
    · obtain rfl : k = m := by omega
      go_wp2_with fail
      go_loopw [8] (fun pv wq => ∃ p : Nat, p ≤ k ∧ pv = .int .i64 p ∧ wq = wr ∧ Hid ((List.range p).all (okA9 L) = true)) (fun pv _ => k - (intOf pv).toNat)
      case atStart => exact ⟨0, by omega, rfl, rfl, Lib.hid rfl⟩
      case round =>
        obtain ⟨p, hp, rfl, rfl, HA⟩ := hrel
        by_cases hpk : p < k
        · obtain ⟨⟨o, b, z⟩, hx⟩ : ∃ x, L[p]? = some x := ⟨_, List.getElem?_eq_getElem (by rw [HLm.out]; exact hpk)⟩
          have HXO : Hid (iO9 L p = o ∧ iA9 L p = b) := Lib.hid ⟨by simp [iO9, hx], by simp [iA9, hx]⟩
          have hb0 : 0 ≤ b := HN.out _ (List.mem_of_getElem? hx)
          obtain ⟨ad, hA, k1, k2, k3⟩ := (HR.out.keep HB.out).at_ (i := p) (by rw [HLm.out]; exact hpk)
          have hxe : L[p]'(by rw [HLm.out]; exact hpk) = (o, b, z) := by
            have h := List.getElem?_eq_getElem (l := L) (i := p) (by rw [HLm.out]; exact hpk)
            rw [hx] at h
            injection h with h
            exact h.symm
          rw [hxe] at k1 k2 k3
          subst hA
          clear hxe hx
          by_cases ho : o = 29
          · subst ho
            obtain ⟨q, rfl⟩ : ∃ q : Nat, b = q := ⟨b.toNat, by omega⟩
            by_cases hq : q < k
            · obtain ⟨⟨o2, b2, z2⟩, hx2⟩ : ∃ x, L[q]? = some x := ⟨_, List.getElem?_eq_getElem (by rw [HLm.out]; exact hq)⟩
              have HXQ : Hid (iO9 L q = o2) := Lib.hid (by simp [iO9, hx2])
              obtain ⟨ad', hA', q1, q2, q3⟩ := (HR.out.keep HB.out).at_ (i := q) (by rw [HLm.out]; exact hq)
              have hxe2 : L[q]'(by rw [HLm.out]; exact hq) = (o2, b2, z2) := by
                have h := List.getElem?_eq_getElem (l := L) (i := q) (by rw [HLm.out]; exact hq)
                rw [hx2] at h
                injection h with h
                exact h.symm
              rw [hxe2] at q1 q2 q3
              injection hA' with hA'
              subst hA'
              clear hxe2 hx2 q2 q3
              have HOA : Hid (okA9 L p = (o2 == 28)) := Lib.hid (by
                rw [okA9, if_pos HXO.out.1, HXO.out.2, Int.toNat_natCast, HXQ.out, HLm.out]
                simp [hq])
              by_cases h28 : o2 = 28
              · subst h28
                have HA2 : Hid ((List.range (p + 1)).all (okA9 L) = true) := Lib.hid (by rw [List.range_succ, List.all_append, HA.out]; simp [HOA.out])
                go_wp2_with fail
                go_roundw
                case rel => exact ⟨p + 1, by omega, by go_num, trivial, HA2⟩
                case measure => simp [intOf]; omega
              · have e28 : (o2 != 28) = true := by simpa using h28
                have HNO : Hid (OK = false) := Lib.hid (by
                  rw [← HOK.out]
                  refine okL9_noA (by rw [HLm.out]; exact hpk) ?_
                  rw [HOA.out]
                  simpa using h28)
                go_wp2_with fail
                go_ret2
                exact ⟨none, 0, 0, by rw [HNO.out]; rfl, (fun h => by rw [HNO.out] at h; cases h), HB.out⟩
            · have HNO : Hid (OK = false) := Lib.hid (by
                rw [← HOK.out]
                refine okL9_noA (by rw [HLm.out]; exact hpk) ?_
                rw [okA9, if_pos HXO.out.1, HXO.out.2, HLm.out]
                simp; omega)
              have hkq : k ≤ q := by omega
              go_wp2_with fail
              go_ret2
              exact ⟨none, 0, 0, by rw [HNO.out]; rfl, (fun h => by rw [HNO.out] at h; cases h), HB.out⟩
          · have e29 : (o == 29) = false := by simpa using ho
            have HA2 : Hid ((List.range (p + 1)).all (okA9 L) = true) := Lib.hid (by rw [List.range_succ, List.all_append, HA.out]; simp [okA9, HXO.out.1, ho])
            go_wp2_with fail
            go_roundw
            case rel => exact ⟨p + 1, by omega, by go_num, trivial, HA2⟩
            case measure => simp [intOf]; omega
        · obtain rfl : p = k := by omega
          have HYE : Hid (OK = true) := Lib.hid (by rw [← HOK.out, okL9, HLm.out, HF.out, HA.out]; rfl)
          go_wp2_with fail
          go_ret2
          exact ⟨A1, c1, n, by rw [HYE.out]; rfl, fun _ => HO.out, HB.out⟩
end Go.Proofs.Ytfchdggefedgoaa
