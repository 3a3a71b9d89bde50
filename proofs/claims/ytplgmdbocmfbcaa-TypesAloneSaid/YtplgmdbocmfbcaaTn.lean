/-
  The law's named (of layer 10).
-/
import Derived.Test.YtplgmdbocmfbcaaLta
import Derived.Test.YtplgmdbocmfbcaaLt
import Derived.Test.YtplgmdbocmfbcaaTi
namespace Go.Proofs.Ytplgmdbocmfbcaa
open Go.RowKit
set_option maxRecDepth 100000
set_option linter.unusedSimpArgs false
set_option linter.unusedVariables false

set_option maxHeartbeats 16000000 in
theorem named10_v (y : Ma) (d : Md) (x : Mc) (h : Mh) (L : List Ins) (w : World) (hq : Hq w y d) (hx : Hd w x h) (hr : Ri w x.D x.e L) (hk : L.length = x.k) (b1 : h.a.length ≤ 1000) (b2 : h.l.length ≤ 1000) (hA : ∀ z ∈ L, 0 ≤ z.2.1) :
    Calls Try.prog 10 #[dv y d, mv x h] w fun e w' => e = .returned (.bool (L.all (th10 d h))) ∧ Below w.heap.size w w' := by
  obtain ⟨G, gc, P, pc, AA, cc, Z⟩ := y
  obtain ⟨XA, xc, XB, xd, XD, m, xe⟩ := x
  dsimp only at hr hk
  have HLm := Lib.hid hk
  have HA := Lib.hid hA
  have hml : m ≤ 9223372036854775807 := by rw [← hk]; exact hr.len
  have hab : IntKind.i64.wrap ((h.a.length : Int) + h.l.length) = ((h.a.length + h.l.length : Nat) : Int) := by
    simp [IntKind.wrap, IntKind.signed, IntKind.bits, go_sem]
    omega
  obtain ⟨ab, hab2⟩ : ∃ n : Nat, h.a.length + h.l.length = n := ⟨_, rfl⟩
  have HAB := Lib.hid hab2
  rw [hab2] at hab
  clear hab2
  have S0 := Lib.hid ((((((Sx.start w).add (fQm ⟨G, gc, P, pc, AA, cc, Z⟩ d) hq).add (fH ⟨XA, xc, XB, xd, XD, m, xe⟩ h) hx).add (fT XD xe L) hr).mkD ⟨G, gc, P, pc, AA, cc, Z⟩ d).mkM ⟨XA, xc, XB, xd, XD, m, xe⟩ h)
  rw [size1] at S0
  obtain ⟨B, hB⟩ : ∃ B, w.heap.size = B := ⟨_, rfl⟩
  obtain ⟨TT, hT⟩ : ∃ T, L.all (th10 d h) = T := ⟨_, rfl⟩
  have HT := Lib.hid hT
  rw [hT]
  clear hq hx hr hk hA hT
  go_enter Try.func10, Try.ntmps10
  go_wp2_with fail
  rw [hB] at S0
  go_loopw [5] (fun iv wq => ∃ i : Nat, i ≤ m ∧ iv = .int .i64 i ∧ Hid ((L.take i).all (th10 d h) = true) ∧ Hid (Sx w wq [fM (B + 1) ⟨XA, xc, XB, xd, XD, m, xe⟩ h, fD B ⟨G, gc, P, pc, AA, cc, Z⟩ d, fT XD xe L, fH ⟨XA, xc, XB, xd, XD, m, xe⟩ h, fQm ⟨G, gc, P, pc, AA, cc, Z⟩ d])) (fun iv _ => m - (intOf iv).toNat)
  case atStart => exact ⟨0, by omega, rfl, Lib.hid rfl, S0⟩
  case round =>
    clear S0
    obtain ⟨i, hi, rfl, HI, SQ⟩ := hrel
    obtain ⟨-, ⟨m0, m1, m2, m3, m4, m5, m6, m7, m8⟩, ⟨d0, d1, d2, d3, d4⟩, -⟩ := SQ.out
    dsimp only at m1 m2 m8 d1 d2 d3
    by_cases h1 : i < m
    · obtain ⟨⟨o, a, z⟩, hx⟩ : ∃ x, L[i]? = some x := ⟨_, List.getElem?_eq_getElem (by rw [HLm.out]; exact h1)⟩
      obtain ⟨al, hA, k1, k2, k3⟩ := SQ.out.2.2.2.1.at9 hx
      subst hA
      have ha0 : 0 ≤ a := HA.out _ (List.mem_of_getElem? hx)
      have ha1 : ¬ a < 0 := by omega
      have HX := Lib.hid hx
      have next : ∀ {v : Bool}, th10 d h (o, a, z) = v → Hid (v = true → (L.take (i + 1)).all (th10 d h) = true) := fun hv => Lib.hid fun ht => by
        rw [List.take_add_one, HX.out, List.all_append, HI.out]
        simp [hv, ht]
      have stop : ∀ {v : Bool}, th10 d h (o, a, z) = v → Hid (v = false → TT = false) := fun hv => Lib.hid fun ht => by
        rw [← HT.out]
        exact List.all_eq_false.2 ⟨_, List.mem_of_getElem? HX.out, by rw [hv, ht]; decide⟩
      rename World => wq
      have hbe : Hid (Below wq.heap.size wq (wq.alloc (.cells #[.int .u8 o, .int .i64 a, .int .i64 z] 45))) := Lib.hid new1
      have S2 := Lib.hid (SQ.out.call hbe.out)
      clear hx
      by_cases e1 : o = 1
      · subst e1
        have hth : th10 d h (1, a, z) = decide (a < (d.p.length : Int)) := by simp [th10]
        have N := next hth
        have F := stop hth
        clear next stop hth
        by_cases hlt : a < (d.p.length : Int)
        · have N := Lib.hid (N.out (decide_eq_true hlt))
          have hge : ¬ (d.p.length : Int) ≤ a := by omega
          go_wp2_with fail
          go_roundw
          case rel => exact ⟨i + 1, by omega, by go_num, N, S2⟩
          case measure => simp [intOf]; omega
        · have F := Lib.hid (F.out (decide_eq_false hlt))
          have hge : (d.p.length : Int) ≤ a := by omega
          go_wp2_with fail
          go_ret
          exact ⟨by rw [F.out]; rfl, by first | exact S2.out.1 | (rw [← hB]; exact S2.out.1)⟩
      have q1 : (o == 1) = false := by simpa using e1
      by_cases e2 : o = 2
      · subst e2
        have hth : th10 d h (2, a, z) = decide (a < (ab : Int)) := by rw [← HAB.out]; simp [th10]
        have N := next hth
        have F := stop hth
        clear next stop hth
        by_cases hlt : a < (ab : Int)
        · have N := Lib.hid (N.out (decide_eq_true hlt))
          have hge : ¬ (ab : Int) ≤ a := by omega
          go_wp2_with fail
          go_roundw
          case rel => exact ⟨i + 1, by omega, by go_num, N, S2⟩
          case measure => simp [intOf]; omega
        · have F := Lib.hid (F.out (decide_eq_false hlt))
          have hge : (ab : Int) ≤ a := by omega
          go_wp2_with fail
          go_ret
          exact ⟨by rw [F.out]; rfl, by first | exact S2.out.1 | (rw [← hB]; exact S2.out.1)⟩
      have q2 : (o == 2) = false := by simpa using e2
      by_cases e3 : o = 3
      · subst e3
        have hth : th10 d h (3, a, z) = decide (a < (ab : Int)) := by rw [← HAB.out]; simp [th10]
        have N := next hth
        have F := stop hth
        clear next stop hth
        by_cases hlt : a < (ab : Int)
        · have N := Lib.hid (N.out (decide_eq_true hlt))
          have hge : ¬ (ab : Int) ≤ a := by omega
          go_wp2_with fail
          go_roundw
          case rel => exact ⟨i + 1, by omega, by go_num, N, S2⟩
          case measure => simp [intOf]; omega
        · have F := Lib.hid (F.out (decide_eq_false hlt))
          have hge : (ab : Int) ≤ a := by omega
          go_wp2_with fail
          go_ret
          exact ⟨by rw [F.out]; rfl, by first | exact S2.out.1 | (rw [← hB]; exact S2.out.1)⟩
      have q3 : (o == 3) = false := by simpa using e3
      by_cases e4 : o = 4
      · subst e4
        have hth : th10 d h (4, a, z) = decide (a < (d.g.length : Int)) := by simp [th10]
        have N := next hth
        have F := stop hth
        clear next stop hth
        by_cases hlt : a < (d.g.length : Int)
        · have N := Lib.hid (N.out (decide_eq_true hlt))
          have hge : ¬ (d.g.length : Int) ≤ a := by omega
          go_wp2_with fail
          go_roundw
          case rel => exact ⟨i + 1, by omega, by go_num, N, S2⟩
          case measure => simp [intOf]; omega
        · have F := Lib.hid (F.out (decide_eq_false hlt))
          have hge : (d.g.length : Int) ≤ a := by omega
          go_wp2_with fail
          go_ret
          exact ⟨by rw [F.out]; rfl, by first | exact S2.out.1 | (rw [← hB]; exact S2.out.1)⟩
      have q4 : (o == 4) = false := by simpa using e4
      by_cases e5 : o = 5
      · subst e5
        have hth : th10 d h (5, a, z) = decide (a < (d.g.length : Int)) := by simp [th10]
        have N := next hth
        have F := stop hth
        clear next stop hth
        by_cases hlt : a < (d.g.length : Int)
        · have N := Lib.hid (N.out (decide_eq_true hlt))
          have hge : ¬ (d.g.length : Int) ≤ a := by omega
          go_wp2_with fail
          go_roundw
          case rel => exact ⟨i + 1, by omega, by go_num, N, S2⟩
          case measure => simp [intOf]; omega
        · have F := Lib.hid (F.out (decide_eq_false hlt))
          have hge : (d.g.length : Int) ≤ a := by omega
          go_wp2_with fail
          go_ret
          exact ⟨by rw [F.out]; rfl, by first | exact S2.out.1 | (rw [← hB]; exact S2.out.1)⟩
      have q5 : (o == 5) = false := by simpa using e5
      by_cases e30 : o = 30
      · subst e30
        have hth : th10 d h (30, a, z) = decide (a < (d.s.length : Int)) := by simp [th10]
        have N := next hth
        have F := stop hth
        clear next stop hth
        by_cases hlt : a < (d.s.length : Int)
        · have N := Lib.hid (N.out (decide_eq_true hlt))
          have hge : ¬ (d.s.length : Int) ≤ a := by omega
          go_wp2_with fail
          go_roundw
          case rel => exact ⟨i + 1, by omega, by go_num, N, S2⟩
          case measure => simp [intOf]; omega
        · have F := Lib.hid (F.out (decide_eq_false hlt))
          have hge : (d.s.length : Int) ≤ a := by omega
          go_wp2_with fail
          go_ret
          exact ⟨by rw [F.out]; rfl, by first | exact S2.out.1 | (rw [← hB]; exact S2.out.1)⟩
      have q30 : (o == 30) = false := by simpa using e30
      have hth : th10 d h (o, a, z) = true := by simp [th10, e1, e2, e3, e4, e5, e30]
      have N := Lib.hid ((next hth).out rfl)
      clear next stop hth
      go_wp2_with fail
      go_roundw
      case rel => exact ⟨i + 1, by omega, by go_num, N, S2⟩
      case measure => simp [intOf]; omega
    · obtain rfl : m = i := by omega
      have HE : Hid (TT = true) := Lib.hid (by
        have h := HI.out
        rw [List.take_of_length_le (by rw [HLm.out]; exact Nat.le_refl _)] at h
        rw [← HT.out, h])
      go_wp2_with fail
      go_ret
      exact ⟨by rw [HE.out] <;> rfl, by first | exact SQ.out.1 | (rw [← hB]; exact SQ.out.1)⟩
end Go.Proofs.Ytplgmdbocmfbcaa
