/-
  The reference's Same of heads, and Great.
-/
import Derived.Test.YtjdalgejejllgaaDoorHr
namespace Go.Proofs.YtjdalgejejllgaaDoor
open Go.RowKit
set_option maxRecDepth 100000
set_option linter.unusedSimpArgs false
set_option linter.unusedVariables false

set_option maxHeartbeats 1000000 in
theorem r7sam_v (x y : Mc) (m k : Mh) (v : Bool) (w : World) (hx : Hd w x m) (hy : Hd w y k) (hv : mS m k = v) :
    Calls Tryd.prog 18 #[mv x m, mv y k] w fun e w' => e = .returned (.bool v) ∧ Below w.heap.size w w' := by
  have HV := Lib.hid hv
  have S0 := Lib.hid (((((Sx.start w).add (fH x m) hx).add (fH y k) hy).mkM x m).mkM y k)
  rw [size1] at S0
  clear hx hy hv
  obtain ⟨-, ⟨hy0, hy1, hy2, hy3, hy4, hy5, hy6, hy7, hy8⟩, ⟨hx0, hx1, hx2, hx3, hx4, hx5, hx6, hx7, hx8⟩, hyd, hxd, -⟩ := S0.out
  have P1 := Lib.hid (r7same_v x.A y.A x.c y.c _ _ m.a k.a _ _ hxd.1 hyd.1 rfl rfl rfl)
  clear hxd hyd
  go_enter Tryd.func18, Tryd.ntmps18
  go_wp2_with fail
  refine P1.out.mono ?_
  rintro e w1 ⟨rfl, hb1⟩
  have S1 := Lib.hid (S0.out.call hb1)
  clear P1 S0 hb1 hx1 hx2 hx3 hx4 hx5 hx6 hx7 hx8 hy1 hy2 hy3 hy4 hy5 hy6 hy7 hy8
  by_cases h0 : m.a = k.a
  · rw [show (m.a == k.a) = true from by simpa using h0]
    obtain ⟨-, ⟨hy0, hy1, hy2, hy3, hy4, hy5, hy6, hy7, hy8⟩, ⟨hx0, hx1, hx2, hx3, hx4, hx5, hx6, hx7, hx8⟩, hyd, hxd, -⟩ := S1.out
    have P2 := Lib.hid (r7same_v x.B y.B x.d y.d _ _ m.l k.l _ _ hxd.2.1 hyd.2.1 rfl rfl rfl)
    clear hxd hyd
    have H0 := Lib.hid h0
    clear h0
    go_wp2_with fail
    refine P2.out.mono ?_
    rintro e w2 ⟨rfl, hb2⟩
    have S2 := Lib.hid (S1.out.call hb2)
    clear P2 S1 hb2 hx1 hx2 hx3 hx4 hx5 hx6 hx7 hx8 hy1 hy2 hy3 hy4 hy5 hy6 hy7 hy8
    obtain ⟨-, ⟨hy0, hy1, hy2, hy3, hy4, hy5, hy6, hy7, hy8⟩, ⟨hx0, hx1, hx2, hx3, hx4, hx5, hx6, hx7, hx8⟩, hyd, hxd, -⟩ := S2.out
    clear hxd hyd
    by_cases h1 : m.l = k.l
    · rw [show (m.l == k.l) = true from by simpa using h1]
      have H1 := Lib.hid h1
      clear h1
      by_cases h2 : m.r = k.r
      · have H2 := Lib.hid h2
        have E2 : (m.r == k.r) = true := by simpa using h2
        clear h2
        by_cases h3 : m.q = k.q
        · have H3 := Lib.hid h3
          have E3 : (m.q == k.q) = true := by simpa using h3
          clear h3
          by_cases h4 : m.f = k.f
          · have H4 := Lib.hid h4
            have E4 : (m.f == k.f) = true := by simpa using h4
            clear h4
            by_cases h5 : m.s = k.s
            · have H5 := Lib.hid h5
              have E5 : (m.s == k.s) = true := by simpa using h5
              clear h5
              by_cases h6 : m.h = k.h
              · have H6 := Lib.hid h6
                have E6 : (m.h == k.h) = true := by simpa using h6
                clear h6
                go_wp2_with fail
                go_ret
                exact ⟨by rw [← HV.out]; simp [mS, H0.out, H1.out, H2.out, H3.out, H4.out, H5.out, H6.out], S2.out.1⟩
              · have H6 := Lib.hid h6
                have E6 : (m.h == k.h) = false := by simpa using h6
                clear h6
                go_wp2_with fail
                go_ret
                exact ⟨by rw [← HV.out]; simp [mS, H6.out], S2.out.1⟩
            · have H5 := Lib.hid h5
              have E5 : (m.s == k.s) = false := by simpa using h5
              clear h5
              go_wp2_with fail
              go_ret
              exact ⟨by rw [← HV.out]; simp [mS, H5.out], S2.out.1⟩
          · have H4 := Lib.hid h4
            have E4 : (m.f == k.f) = false := by simpa using h4
            clear h4
            go_wp2_with fail
            go_ret
            exact ⟨by rw [← HV.out]; simp [mS, H4.out], S2.out.1⟩
        · have H3 := Lib.hid h3
          have E3 : (m.q == k.q) = false := by simpa using h3
          clear h3
          go_wp2_with fail
          go_ret
          exact ⟨by rw [← HV.out]; simp [mS, H3.out], S2.out.1⟩
      · have H2 := Lib.hid h2
        have E2 : (m.r == k.r) = false := by simpa using h2
        clear h2
        go_wp2_with fail
        go_ret
        exact ⟨by rw [← HV.out]; simp [mS, H2.out], S2.out.1⟩
    · rw [show (m.l == k.l) = false from by simpa using h1]
      have H1 := Lib.hid h1
      clear h1
      go_wp2_with fail
      go_ret
      exact ⟨by rw [← HV.out]; simp [mS, H1.out], S2.out.1⟩
  · rw [show (m.a == k.a) = false from by simpa using h0]
    have H0 := Lib.hid h0
    clear h0
    go_wp2_with fail
    go_ret
    exact ⟨by rw [← HV.out]; simp [mS, H0.out], S1.out.1⟩
/-- More than is gone through. -/
def gB (m : Mh) : Bool := decide ((100 : Int) < m.a.length) || decide ((100 : Int) < m.l.length)
theorem gB_no {m : Mh} (h : gB m = false) : m.a.length ≤ 100 ∧ m.l.length ≤ 100 := by
  simp [gB] at h
  omega
theorem great_v (x : Mc) (m : Mh) (w : World) (hx : Hd w x m) : Calls Tryd.prog 8 #[mv x m] w fun e w' => e = .returned (.bool (gB m)) ∧ Below w.heap.size w w' := by
  have h1 := hx.la
  have h2 := hx.ll
  clear hx
  by_cases g1 : 100 < m.a.length
  · have E : gB m = true := by simp [gB]; omega
    rw [E]
    clear E
    go_enter Tryd.func8, Tryd.ntmps8
    go_wp2_with fail
    go_ret
    exact ⟨rfl, new1⟩
  · go_enter Tryd.func8, Tryd.ntmps8
    go_wp2_with fail
    go_ret
    exact ⟨rfl, new1⟩
end Go.Proofs.YtjdalgejejllgaaDoor
