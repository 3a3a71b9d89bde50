/-
  The reference's May of heads.
-/
import Derived.Test.YtjdalgejejllgaaDoorHs
namespace Go.Proofs.YtjdalgejejllgaaDoor
open Go.RowKit
set_option maxRecDepth 100000
set_option linter.unusedSimpArgs false
set_option linter.unusedVariables false

theorem ret_of {a b : Bool} (h : a = b) : Ending.returned (.bool a) = Ending.returned (.bool b) := by rw [h]
set_option maxHeartbeats 2000000 in
theorem r7may_v (x : Mc) (m : Mh) (v : Bool) (w : World) (hx : Hd w x m) (hv : mM m = v) : Calls Tryd.prog 12 #[mv x m] w fun e w' => e = .returned (.bool v) ∧ Below w.heap.size w w' := by
  have h1 := hx.la
  have h2 := hx.ll
  have HV := Lib.hid hv
  have S0 := Lib.hid (((Sx.start w).add (fH x m) hx).mkM x m)
  clear hx hv
  have P1 := fun w1 (h : Hid (Sx w w1 [fM w.heap.size x m, fH x m])) => Lib.hid (r7kinds_v x.A x.c _ m.a _ w1 h.out.2.2.1.1 rfl rfl)
  have P2 := fun w1 (h : Hid (Sx w w1 [fM w.heap.size x m, fH x m])) => Lib.hid (r7kinds_v x.B x.d _ m.l _ w1 h.out.2.2.1.2.1 rfl rfl)
  by_cases g1 : m.a.length ≤ 4
  · by_cases g2 : m.l.length + m.a.length ≤ 16
    · have G1 := Lib.hid g1
      have G2 := Lib.hid g2
      go_enter Tryd.func12, Tryd.ntmps12
      go_wp2_with fail
      refine (P1 _ S0).out.mono ?_
      rintro e w1 ⟨rfl, rfl⟩
      by_cases k1 : kO m.a = true
      · rw [k1]
        have K1 := Lib.hid k1
        clear k1
        go_wp2_with fail
        refine (P2 _ S0).out.mono ?_
        rintro e w2 ⟨rfl, rfl⟩
        by_cases k2 : kO m.l = true
        · rw [k2]
          have K2 := Lib.hid k2
          clear k2 P1 P2
          by_cases r1 : m.r = 1
          · have R1 := Lib.hid r1
            have r1' : (m.r != 1) = false := by simpa using r1
            clear r1
            go_wp2_with fail
            all_goals
              go_ret
              refine ⟨?_, S0.out.1⟩
              rw [← HV.out]
              refine ret_of ?_
              rw [Bool.eq_iff_iff, mM_iff, K1.out, K2.out, R1.out]
              have q1 := G1.out
              have q2 := G2.out
              simp
              omega
          · by_cases r2 : m.r = 2
            · have R1 := Lib.hid r2
              have r1' : (m.r != 1) = true := by simpa using r1
              have r2' : (m.r != 2) = false := by simpa using r2
              clear r1 r2
              go_wp2_with fail
              all_goals
                go_ret
                refine ⟨?_, S0.out.1⟩
                rw [← HV.out]
                refine ret_of ?_
                rw [Bool.eq_iff_iff, mM_iff, K1.out, K2.out, R1.out]
                have q1 := G1.out
                have q2 := G2.out
                simp
                omega
            · have R : Hid ((decide (1 ≤ m.r) && decide (m.r ≤ 2)) = false) := by unfold Hid; simp; omega
              have r1' : (m.r != 1) = true := by simpa using r1
              have r2' : (m.r != 2) = true := by simpa using r2
              clear r1 r2
              go_wp2_with fail
              go_ret
              exact ⟨by rw [← HV.out, mM, R.out]; simp, S0.out.1⟩
        · rw [show kO m.l = false by simpa using k2]
          have K2 := Lib.hid k2
          clear k2 P1 P2
          go_wp2_with fail
          go_ret
          exact ⟨by rw [← HV.out]; simp [mM, K2.out], S0.out.1⟩
      · rw [show kO m.a = false by simpa using k1]
        have K1 := Lib.hid k1
        clear k1 P1 P2
        go_wp2_with fail
        go_ret
        exact ⟨by rw [← HV.out]; simp [mM, K1.out], S0.out.1⟩
    · have G2 := Lib.hid g2
      clear P1 P2
      go_enter Tryd.func12, Tryd.ntmps12
      go_wp2_with fail
      go_ret
      exact ⟨by rw [← HV.out]; simp [mM, G2.out], S0.out.1⟩
  · have G1 := Lib.hid g1
    clear P1 P2
    go_enter Tryd.func12, Tryd.ntmps12
    go_wp2_with fail
    go_ret
    exact ⟨by rw [← HV.out]; simp [mM, G1.out], S0.out.1⟩
end Go.Proofs.YtjdalgejejllgaaDoor
