/-
  Layer 7, package method: what Same answers.
-/
import Derived.Test.YteimpkjpoijhmaaDoorLk
namespace Go.Proofs.YteimpkjpoijhmaaDoor
open Go.RowKit
set_option maxRecDepth 100000
set_option linter.unusedSimpArgs false
set_option linter.unusedVariables false

theorem sequal_v (A B : Option Addr) (c d n m : Nat) (l k : List Int) (v : Bool) (w : World) (hr : Rd w A c l) (hs : Rd w B d k) (hn : l.length = n) (hm : k.length = m) (hv : (l == k) = v) :
    Calls Tryd.prog 103 #[.slice A n c, .slice B m d] w fun e w' => e = .returned (.bool v) ∧ Below w.heap.size w w' := by
  subst hn hm
  have hlen := hr.len
  have hlen2 := hs.len
  have HR := Lib.hid hr
  have HS := Lib.hid hs
  have HV := Lib.hid hv
  clear hr hs hv
  by_cases hl : l.length = k.length
  · go_enter Tryd.func103, Tryd.ntmps103
    go_wp2_with fail
    go_loopw [13] (fun i wr => ∃ j : Nat, j ≤ l.length ∧ i = .int .i64 j ∧ Hid (l.take j = k.take j) ∧ Hid (Below w.heap.size w wr)) (fun i _ => l.length - (intOf i).toNat)
    case atStart => exact ⟨0, by omega, rfl, rfl, Below.refl _ _⟩
    case round =>
      obtain ⟨j, hj, rfl, HT, HB⟩ := hrel
      by_cases h1 : j < l.length
      · have h2 : j < k.length := by omega
        obtain ⟨ad, rfl, hc⟩ := (HR.out.keep HB.out).at_ h1
        obtain ⟨bd, rfl, hd⟩ := (HS.out.keep HB.out).at_ h2
        rw [List.getElem?_eq_getElem h1] at hc
        rw [List.getElem?_eq_getElem h2] at hd
        simp only [Option.getD_some] at hc hd
        by_cases hx : l[j] = k[j]
        · have HN := Lib.hid (take_eq h1 h2 hx HT.out)
          clear HT
          rw [← hx] at hd
          clear hx
          generalize l[j] = x at *
          go_wp2_with fail
          go_quiet (fail)
          go_wp2_with fail
          go_roundw
          case rel => exact ⟨j + 1, by omega, by go_num, HN, Lib.hid (below_draws HB.out _)⟩
          case measure => simp [intOf]; omega
        · have HN : Hid (v = false) := by rw [Hid, ← HV.out]; exact beq_no (take_ne h1 h2 hx)
          clear HT
          generalize l[j] = x at *
          generalize k[j] = y at *
          go_wp2_with fail
          go_quiet (fail)
          go_wp2_with fail
          go_ret
          exact ⟨by rw [HN.out]; rfl, below_draws HB.out _⟩
      · obtain rfl : j = l.length := by omega
        have HN : Hid (v = true) := by
          rw [Hid, ← HV.out]
          have := HT.out
          rw [List.take_length, hl, List.take_length] at this
          simpa using this
        clear HT
        go_wp2_with fail
        go_ret
        exact ⟨by rw [HN.out]; rfl, HB.out⟩
  · have HN : Hid (v = false) := by rw [Hid, ← HV.out]; exact beq_no (fun e => hl (by rw [e]))
    go_enter Tryd.func103, Tryd.ntmps103
    go_wp2_with fail
    go_ret
    exact ⟨by rw [HN.out]; rfl, Below.refl _ _⟩
set_option maxHeartbeats 1000000 in
theorem msame_v (x y : Mc) (m k : Mh) (v : Bool) (w : World) (hx : Hd w x m) (hy : Hd w y k) (hv : mS m k = v) :
    Calls Tryd.prog 68 #[mv x m, mv y k] w fun e w' => e = .returned (.bool v) ∧ Below w.heap.size w w' := by
  have HV := Lib.hid hv
  have S0 := Lib.hid (((((Sx.start w).add (fH x m) hx).add (fH y k) hy).mkM x m).mkM y k)
  rw [size1] at S0
  clear hx hy hv
  obtain ⟨-, ⟨hy0, hy1, hy2, hy3, hy4, hy5, hy6, hy7, hy8⟩, ⟨hx0, hx1, hx2, hx3, hx4, hx5, hx6, hx7, hx8⟩, hyd, hxd, -⟩ := S0.out
  have P1 := Lib.hid (sequal_v x.A y.A x.c y.c _ _ m.a k.a _ _ hxd.1 hyd.1 rfl rfl rfl)
  clear hxd hyd
  go_enter Tryd.func68, Tryd.ntmps68
  go_wp2_with fail
  refine P1.out.mono ?_
  rintro e w1 ⟨rfl, hb1⟩
  have S1 := Lib.hid (S0.out.call hb1)
  clear P1 S0 hb1 hx1 hx2 hx3 hx4 hx5 hx6 hx7 hx8 hy1 hy2 hy3 hy4 hy5 hy6 hy7 hy8
  by_cases h0 : m.a = k.a
  · rw [show (m.a == k.a) = true from by simpa using h0]
    obtain ⟨-, ⟨hy0, hy1, hy2, hy3, hy4, hy5, hy6, hy7, hy8⟩, ⟨hx0, hx1, hx2, hx3, hx4, hx5, hx6, hx7, hx8⟩, hyd, hxd, -⟩ := S1.out
    have P2 := Lib.hid (sequal_v x.B y.B x.d y.d _ _ m.l k.l _ _ hxd.2.1 hyd.2.1 rfl rfl rfl)
    clear hxd hyd
    have H0 := Lib.hid h0
    clear h0
    go_wp2_with fail
    refine P2.out.mono ?_
    rintro e w2 ⟨rfl, hb2⟩
    have S2 := Lib.hid (S1.out.call hb2)
    clear P2 S1 hb2 hx1 hx2 hx3 hx4 hx5 hx6 hx7 hx8 hy1 hy2 hy3 hy4 hy5 hy6 hy7 hy8
    obtain ⟨-, ⟨hy0, hy1, hy2, hy3, hy4, hy5, hy6, hy7, hy8⟩, ⟨hx0, hx1, hx2, hx3, hx4, hx5, hx6, hx7, hx8⟩, hyd, hxd, -⟩ := S2.out
    clear hxd hyd
    by_cases h1 : m.l = k.l
    · rw [show (m.l == k.l) = true from by simpa using h1]
      have H1 := Lib.hid h1
      clear h1
      by_cases h2 : m.r = k.r
      · have H2 := Lib.hid h2
        have E2 : (m.r == k.r) = true := by simpa using h2
        clear h2
        by_cases h3 : m.q = k.q
        · have H3 := Lib.hid h3
          have E3 : (m.q == k.q) = true := by simpa using h3
          clear h3
          by_cases h4 : m.f = k.f
          · have H4 := Lib.hid h4
            have E4 : (m.f == k.f) = true := by simpa using h4
            clear h4
            by_cases h5 : m.s = k.s
            · have H5 := Lib.hid h5
              have E5 : (m.s == k.s) = true := by simpa using h5
              clear h5
              by_cases h6 : m.h = k.h
              · have H6 := Lib.hid h6
                have E6 : (m.h == k.h) = true := by simpa using h6
                clear h6
                go_wp2_with fail
                go_ret
                exact ⟨by rw [← HV.out]; simp [mS, H0.out, H1.out, H2.out, H3.out, H4.out, H5.out, H6.out], S2.out.1⟩
              · have H6 := Lib.hid h6
                have E6 : (m.h == k.h) = false := by simpa using h6
                clear h6
                go_wp2_with fail
                go_ret
                exact ⟨by rw [← HV.out]; simp [mS, H6.out], S2.out.1⟩
            · have H5 := Lib.hid h5
              have E5 : (m.s == k.s) = false := by simpa using h5
              clear h5
              go_wp2_with fail
              go_ret
              exact ⟨by rw [← HV.out]; simp [mS, H5.out], S2.out.1⟩
          · have H4 := Lib.hid h4
            have E4 : (m.f == k.f) = false := by simpa using h4
            clear h4
            go_wp2_with fail
            go_ret
            exact ⟨by rw [← HV.out]; simp [mS, H4.out], S2.out.1⟩
        · have H3 := Lib.hid h3
          have E3 : (m.q == k.q) = false := by simpa using h3
          clear h3
          go_wp2_with fail
          go_ret
          exact ⟨by rw [← HV.out]; simp [mS, H3.out], S2.out.1⟩
      · have H2 := Lib.hid h2
        have E2 : (m.r == k.r) = false := by simpa using h2
        clear h2
        go_wp2_with fail
        go_ret
        exact ⟨by rw [← HV.out]; simp [mS, H2.out], S2.out.1⟩
    · rw [show (m.l == k.l) = false from by simpa using h1]
      have H1 := Lib.hid h1
      clear h1
      go_wp2_with fail
      go_ret
      exact ⟨by rw [← HV.out]; simp [mS, H1.out], S2.out.1⟩
  · rw [show (m.a == k.a) = false from by simpa using h0]
    have H0 := Lib.hid h0
    clear h0
    go_wp2_with fail
    go_ret
    exact ⟨by rw [← HV.out]; simp [mS, H0.out], S1.out.1⟩
end Go.Proofs.YteimpkjpoijhmaaDoor
