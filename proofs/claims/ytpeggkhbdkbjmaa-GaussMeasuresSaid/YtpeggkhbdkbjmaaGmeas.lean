/-
  The walk of GaussMeasures: for every two pairs it returns true; nothing that was there has changed.
-/
import Derived.Test.YtpeggkhbdkbjmaaGmath
namespace Go.Proofs.Ytpeggkhbdkbjmaa
open Go.RowKit

/-- What the statement comes to, in plain numbers. -/
theorem meas_plain (a b c d : Int) :
    (mulI a b c d = true → IntKind.i64.wrap (meas a b * meas c d) = meas (gX (mulI a b c d) (a * c - b * d)) (gX (mulI a b c d) (a * d + b * c))) := by
  intro h
  rw [h, gX_t, gX_t]
  exact meas_mul h
theorem okB_bd {a b : Int} (h : okB a b = true) : -9223372036854775808 ≤ b ∧ b ≤ 9223372036854775807 := by
  have := (okB_iff.1 h).2
  omega
theorem meas_plain2 {a b c d X Y mp A1 A2 B1 B2 O1 O2 Y1 Y2 Z1 Z2 T1 T2 : Int} {vs vi vj vk vl vm vn : Bool} (hvs : mulI a b c d = vs) (hX : gX vs (a * c - b * d) = X) (hY : gX vs (a * d + b * c) = Y)
    (hmp : meas a b = mp) (hvi : okB a b = vi) (hvj : okB c d = vj) (hA1 : gX vi a = A1) (hA2 : gX vi (-b) = A2) (hB1 : gX vj c = B1) (hB2 : gX vj (-d) = B2)
    (hvk : mulI a b A1 A2 = vk) (hO1 : gX vk (a * A1 - b * A2) = O1) (hO2 : gX vk (a * A2 + b * A1) = O2)
    (hvl : mulI A1 A2 B1 B2 = vl) (hY1 : gX vl (A1 * B1 - A2 * B2) = Y1) (hY2 : gX vl (A1 * B2 + A2 * B1) = Y2)
    (hvm : okB X Y = vm) (hZ1 : gX vm X = Z1) (hZ2 : gX vm (-Y) = Z2) (hvn : okB A1 A2 = vn) (hT1 : gX vn A1 = T1) (hT2 : gX vn (-A2) = T2) :
    (-9223372036854775808 ≤ Y ∧ Y ≤ 9223372036854775807) ∧ (-9223372036854775808 ≤ A2 ∧ A2 ≤ 9223372036854775807) ∧
    (vk = true → O1 = mp ∧ O2 = 0) ∧ (vi = true → T1 = a ∧ T2 = b ∧ vn = true) ∧
    (vi = true → vj = true → vl = vs ∧ (vs = true → vm = true ∧ Y1 = Z1 ∧ Y2 = Z2)) := by
  refine ⟨?_, ?_, fun h => ?_, fun h => ?_, fun h g => ?_⟩
  · cases hv : vs with
    | true =>
      rw [hv] at hvs hY
      rw [← hY, gX_t]
      exact okB_bd (mulI_iff.1 hvs).2.2
    | false => rw [hv, gX_f] at hY; omega
  · cases hv : vi with
    | true =>
      rw [hv] at hvi hA2
      rw [← hA2, gX_t]
      have := (okB_iff.1 hvi).2
      omega
    | false => rw [hv, gX_f] at hA2; omega
  · subst h
    have h1 := (mulI_iff.1 hvk).1
    rw [h1] at hvi
    subst hvi
    rw [gX_t] at hA1 hA2 hO1 hO2
    subst hA1 hA2 hO1 hO2
    rw [← hmp]
    exact own_mul h1
  · subst h
    rw [gX_t] at hA1 hA2
    subst hA1 hA2
    rw [neg_ok, hvi] at hvn
    subst hvn
    rw [gX_t] at hT1 hT2
    exact ⟨hT1.symm, by rw [← hT2]; omega, rfl⟩
  · subst h g
    rw [gX_t] at hA1 hA2 hB1 hB2
    subst hA1 hA2 hB1 hB2
    rw [mulI_conj, hvs] at hvl
    refine ⟨hvl.symm, fun hv => ?_⟩
    subst hvl
    subst hv
    rw [gX_t] at hX hY hY1 hY2
    rw [(conj_mul a b c d).1] at hY1
    rw [(conj_mul a b c d).2] at hY2
    have h3 := (mulI_iff.1 hvs).2.2
    rw [hX, hY, hvm] at h3
    subst h3
    rw [gX_t] at hZ1 hZ2
    exact ⟨rfl, by omega, by omega⟩

set_option maxRecDepth 100000 in
set_option maxHeartbeats 4000000 in
theorem meas_walk (a b c d : Int) (w : World) (hm : -9223372036854775808 ≤ b ∧ b ≤ 9223372036854775807) (hm' : -9223372036854775808 ≤ d ∧ d ≤ 9223372036854775807) : Calls Try.prog 5 #[.agg #[.int .i64 a, .int .i64 b], .agg #[.int .i64 c, .int .i64 d]] w fun e w' => e = .returned (.bool true) ∧ Below w.heap.size w w' := by
  obtain ⟨vs, hvs⟩ : ∃ v, mulI a b c d = v := ⟨_, rfl⟩
  obtain ⟨X, hX⟩ : ∃ x, gX vs (a * c - b * d) = x := ⟨_, rfl⟩
  obtain ⟨Y, hY⟩ : ∃ x, gX vs (a * d + b * c) = x := ⟨_, rfl⟩
  obtain ⟨mp, hmp⟩ : ∃ x, meas a b = x := ⟨_, rfl⟩
  obtain ⟨mq, hmq⟩ : ∃ x, meas c d = x := ⟨_, rfl⟩
  obtain ⟨mx, hmx⟩ : ∃ x, meas X Y = x := ⟨_, rfl⟩
  obtain ⟨vi, hvi⟩ : ∃ v, okB a b = v := ⟨_, rfl⟩
  obtain ⟨vj, hvj⟩ : ∃ v, okB c d = v := ⟨_, rfl⟩
  obtain ⟨A1, hA1⟩ : ∃ x, gX vi a = x := ⟨_, rfl⟩
  obtain ⟨A2, hA2⟩ : ∃ x, gX vi (-b) = x := ⟨_, rfl⟩
  obtain ⟨B1, hB1⟩ : ∃ x, gX vj c = x := ⟨_, rfl⟩
  obtain ⟨B2, hB2⟩ : ∃ x, gX vj (-d) = x := ⟨_, rfl⟩
  obtain ⟨vk, hvk⟩ : ∃ v, mulI a b A1 A2 = v := ⟨_, rfl⟩
  obtain ⟨O1, hO1⟩ : ∃ x, gX vk (a * A1 - b * A2) = x := ⟨_, rfl⟩
  obtain ⟨O2, hO2⟩ : ∃ x, gX vk (a * A2 + b * A1) = x := ⟨_, rfl⟩
  obtain ⟨vl, hvl⟩ : ∃ v, mulI A1 A2 B1 B2 = v := ⟨_, rfl⟩
  obtain ⟨Y1, hY1⟩ : ∃ x, gX vl (A1 * B1 - A2 * B2) = x := ⟨_, rfl⟩
  obtain ⟨Y2, hY2⟩ : ∃ x, gX vl (A1 * B2 + A2 * B1) = x := ⟨_, rfl⟩
  obtain ⟨vm, hvm⟩ : ∃ v, okB X Y = v := ⟨_, rfl⟩
  obtain ⟨Z1, hZ1⟩ : ∃ x, gX vm X = x := ⟨_, rfl⟩
  obtain ⟨Z2, hZ2⟩ : ∃ x, gX vm (-Y) = x := ⟨_, rfl⟩
  obtain ⟨vn, hvn⟩ : ∃ v, okB A1 A2 = v := ⟨_, rfl⟩
  obtain ⟨T1, hT1⟩ : ∃ x, gX vn A1 = x := ⟨_, rfl⟩
  obtain ⟨T2, hT2⟩ : ∃ x, gX vn (-A2) = x := ⟨_, rfl⟩
  obtain ⟨mY, mA2, e5, e6, e7⟩ := meas_plain2 hvs hX hY hmp hvi hvj hA1 hA2 hB1 hB2 hvk hO1 hO2 hvl hY1 hY2 hvm hZ1 hZ2 hvn hT1 hT2
  have HA := Lib.hid (And.intro (And.intro hvi (And.intro hA1 hA2)) hm)
  have HB := Lib.hid (And.intro (And.intro hvj (And.intro hB1 hB2)) hm')
  have HV := Lib.hid hvi
  have HK := Lib.hid (And.intro hvk (And.intro hO1 hO2))
  have HL := Lib.hid (And.intro hvl (And.intro hY1 hY2))
  have HZ := Lib.hid (And.intro (And.intro hvm (And.intro hZ1 hZ2)) mY)
  have HT := Lib.hid (And.intro (And.intro hvn (And.intro hT1 hT2)) mA2)
  have hD : decide (mp < 0) = !vi := by rw [← hmp, ← hvi]; exact meas_sign a b
  have HD := Lib.hid hD
  have M5 := Lib.hid e5
  have M6 := Lib.hid e6
  have M7 := Lib.hid e7
  have HS := Lib.hid (And.intro hvs (And.intro hX hY))
  have HP := Lib.hid hmp
  have HQ := Lib.hid hmq
  have HX := Lib.hid hmx
  have HM := Lib.hid hm
  have HM' := Lib.hid hm'
  have M1 : Hid (vs = true → IntKind.i64.wrap (mp * mq) = mx) := by
    intro h
    have := meas_plain a b c d (hvs.trans h)
    rw [hvs, hX, hY, hmp, hmq, hmx] at this
    exact this
  have eq := fun (a b x y : Int) (w : World) => eq_pair 9998 a b x y w
  clear hvs hX hY hmp hmq hmx hm hm' hvi hvj hA1 hA2 hB1 hB2 hvk hO1 hO2 hvl hY1 hY2 hvm hZ1 hZ2 hvn hT1 hT2 mY mA2 e5 e6 e7 hD
  go_enter Try.func5, Try.ntmps5
  go_wp2_with fail
  refine (awake_any _).mono ?_
  rintro e w1 ⟨rfl, hb1⟩
  have p : Pr w1 w.heap.size a b := ((Pr.new w a b).alloc (.cells #[.int .i64 c, .int .i64 d] 23)).keep hb1
  have q : Pr w1 (w.heap.size + 1) c d := by simpa using (Pr.new (w.alloc (.cells #[.int .i64 a, .int .i64 b] 23)) c d).keep hb1
  have S1 : Hid (St w w1 [(w.heap.size + 1, c, d), (w.heap.size, a, b)]) := ⟨below2 hb1, q, p, trivial⟩
  obtain ⟨p0, p1, p2, -, -⟩ := p
  obtain ⟨q0, q1, q2, -, -⟩ := q
  clear hb1
  go_wp2_with fail
  refine (mul_e _ _ _ _ _ _ _ _ HS.out).mono ?_
  rintro e w2 ⟨rfl, hb2⟩
  have S2 := Lib.hid (S1.out.call hb2)
  clear hb2 S1 p0 p1 p2 q0 q1 q2
  go_upto_region 4 with (fail)
  go_cut [37] (fun s wx => s = .bool false ∧ Hid (St w wx [(w2.heap.size, X, Y), (w.heap.size + 1, c, d), (w.heap.size, a, b)]))
  case first =>
    have S3 := Lib.hid (S2.out.mk X Y)
    generalize w2.alloc (.cells #[.int .i64 X, .int .i64 Y] 23) = w3 at *
    cases vs with
    | false =>
      go_quiet (fail)
      go_wp2_with fail
      go_meet
      exact ⟨rfl, S3.out.drewN _⟩
    | true =>
      have e1 := M1.out rfl
      clear eq S2 HS
      go_region_held3 (fun w' => w'.cell? ⟨w2.heap.size, 0, none⟩ = some (.int .i64 X) ∧ w'.cell? ⟨w2.heap.size, 1, none⟩ = some (.int .i64 Y) ∧ w'.cell? ⟨w.heap.size + 1, 0, none⟩ = some (.int .i64 c) ∧ w'.cell? ⟨w.heap.size + 1, 1, none⟩ = some (.int .i64 d) ∧ w'.cell? ⟨w.heap.size, 0, none⟩ = some (.int .i64 a) ∧ w'.cell? ⟨w.heap.size, 1, none⟩ = some (.int .i64 b) ∧
          Hid (St w w' [(w2.heap.size, X, Y), (w.heap.size + 1, c, d), (w.heap.size, a, b)])) (first | exact cells3 (by assumption) | exact cells3 (Hst.drew (by assumption)) | exact cells3 (Hst.call (by assumption) (by assumption)) | exact cells3_on (by assumption) (by assumption))
        (first | (go_at_call 17; (with_reducible refine (measure_e X Y mx _ HX.out).mono ?_); rintro e w' ⟨rfl, hb⟩) | (go_at_call 17; (with_reducible refine (measure_e a b mp _ HP.out).mono ?_); rintro e w' ⟨rfl, hb⟩) | (go_at_call 17; (with_reducible refine (measure_e c d mq _ HQ.out).mono ?_); rintro e w' ⟨rfl, hb⟩))
      go_wp2_with fail
      go_meet
      exact ⟨rfl, cells3_st (by assumption)⟩
  case rest =>
    obtain ⟨rfl, S3⟩ := hcut
    have eq := fun (a b x y : Int) (w : World) => eq_pair 9998 a b x y w
    obtain ⟨-, -, ⟨q0, q1, q2, -, -⟩, ⟨p0, p1, p2, -, -⟩, -⟩ := S3.out
    go_wp2_with fail
    refine (conj_e _ _ _ _ _ _ HA.out).mono ?_
    rintro e w3 ⟨rfl, hb3⟩
    have S4 := Lib.hid (S3.out.call hb3)
    clear hb3 S3 p0 p1 p2 q0 q1 q2
    obtain ⟨-, -, ⟨q0, q1, q2, -, -⟩, ⟨p0, p1, p2, -, -⟩, -⟩ := S4.out
    go_wp2_with fail
    refine (conj_e _ _ _ _ _ _ HB.out).mono ?_
    rintro e w4 ⟨rfl, hb4⟩
    have S5 := Lib.hid (S4.out.new hb4)
    clear hb4 S4 p0 p1 p2 q0 q1 q2
    obtain ⟨-, -, -, -, ⟨p0, p1, p2, -, -⟩, -⟩ := S5.out
    go_wp2_with fail
    refine (may_v _ _ _ _ HV.out).mono ?_
    rintro e w5 ⟨rfl, hb5⟩
    have S6 := Lib.hid (S5.out.new hb5)
    clear hb5 S5 p0 p1 p2
    obtain ⟨-, -, -, -, -, ⟨p0, p1, p2, -, -⟩, -⟩ := S6.out
    go_wp2_with fail
    refine (measure_e _ _ _ _ HP.out).mono ?_
    rintro e w6 ⟨rfl, hb6⟩
    have S7 := Lib.hid (S6.out.call hb6)
    clear hb6 S6 p0 p1 p2
    obtain ⟨-, -, ⟨a0, a1, a2, -, -⟩, -, -, ⟨p0, p1, p2, -, -⟩, -⟩ := S7.out
    have hD := HD.out
    go_wp2_with fail
    refine (mul_e _ _ _ _ _ _ _ _ HK.out).mono ?_
    rintro e w7 ⟨rfl, hb7⟩
    have S8 := Lib.hid (S7.out.call hb7)
    clear hb7 S7 p0 p1 p2 a0 a1 a2 hD
    go_upto_region 11 with (fail)
    go_cut [73] (fun s wx => s = .bool false ∧ Hid (St w wx [(w7.heap.size, O1, O2), (w4.heap.size, B1, B2), (w3.heap.size, A1, A2), (w2.heap.size, X, Y), (w.heap.size + 1, c, d), (w.heap.size, a, b)]))
    case first =>
      have S9 := Lib.hid (S8.out.mk O1 O2)
      generalize w7.alloc (.cells #[.int .i64 O1, .int .i64 O2] 23) = w8 at *
      cases vk with
      | false =>
        go_quiet (fail)
        go_wp2_with fail
        go_meet
        exact ⟨rfl, S9.out.drewN _⟩
      | true =>
        have e5 := M5.out rfl
        obtain ⟨rfl, rfl⟩ := e5
        clear S8
        go_region_held3 (fun w' => w'.cell? ⟨w7.heap.size, 0, none⟩ = some (.int .i64 O1) ∧ w'.cell? ⟨w7.heap.size, 1, none⟩ = some (.int .i64 0) ∧ w'.cell? ⟨w.heap.size, 0, none⟩ = some (.int .i64 a) ∧ w'.cell? ⟨w.heap.size, 1, none⟩ = some (.int .i64 b) ∧ Hid (St w w' [(w7.heap.size, O1, 0), (w4.heap.size, B1, B2), (w3.heap.size, A1, A2), (w2.heap.size, X, Y), (w.heap.size + 1, c, d), (w.heap.size, a, b)]))
          (first | exact cells6 (by assumption) | exact cells6 (Hst.drew (by assumption)) | exact cells6 (Hst.call (by assumption) (by assumption)) | exact cells6_on (by assumption) (by assumption))
          (first | (go_at_call 17; (with_reducible refine (measure_e a b _ _ HP.out).mono ?_); rintro e w' ⟨rfl, hb⟩))
        go_wp2_with fail
        go_meet
        exact ⟨rfl, cells6_st (by assumption)⟩
    case rest =>
      obtain ⟨rfl, S9⟩ := hcut
      obtain ⟨-, -, ⟨b0, b1, b2, -, -⟩, ⟨a0, a1, a2, -, -⟩, -⟩ := S9.out
      go_wp2_with fail
      refine (mul_e _ _ _ _ _ _ _ _ HL.out).mono ?_
      rintro e w9 ⟨rfl, hb9⟩
      have S10 := Lib.hid (S9.out.call hb9)
      clear hb9 S9 a0 a1 a2 b0 b1 b2
      obtain ⟨-, -, -, -, ⟨x0, x1, x2, -, -⟩, -⟩ := S10.out
      go_wp2_with fail
      refine (conj_e _ _ _ _ _ _ HZ.out).mono ?_
      rintro e w10 ⟨rfl, hb10⟩
      have S11 := Lib.hid (S10.out.new hb10)
      clear hb10 S10 x0 x1 x2
      obtain ⟨-, -, -, -, ⟨a0, a1, a2, -, -⟩, -⟩ := S11.out
      go_wp2_with fail
      refine (conj_e _ _ _ _ _ _ HT.out).mono ?_
      rintro e w11 ⟨rfl, hb11⟩
      have S12 := Lib.hid (S11.out.new hb11)
      clear hb11 S11 a0 a1 a2
      go_upto_region 16 with (fail)
      go_cut [99] (fun s wx => s = .bool false ∧ Hid (St w wx [(w11.heap.size, T1, T2), (w10.heap.size, Z1, Z2), (w9.heap.size, Y1, Y2), (w7.heap.size, O1, O2), (w4.heap.size, B1, B2), (w3.heap.size, A1, A2), (w2.heap.size, X, Y), (w.heap.size + 1, c, d), (w.heap.size, a, b)]))
      case first =>
        have S13 := Lib.hid (S12.out.mk T1 T2)
        generalize w11.alloc (.cells #[.int .i64 T1, .int .i64 T2] 23) = w12 at *
        cases vi with
        | false =>
          go_wp2_with fail
          go_meet
          exact ⟨rfl, S13⟩
        | true =>
          obtain ⟨rfl, rfl, rfl⟩ := M6.out rfl
          obtain ⟨-, ⟨t0, t1, t2, -, -⟩, -, -, -, -, -, -, -, ⟨p0, p1, p2, -, -⟩, -⟩ := S13.out
          go_wp2_with fail
          go_meet
          exact ⟨rfl, S13⟩
      case rest =>
        obtain ⟨rfl, S13⟩ := hcut
        cases vi with
        | false =>
          go_wp2_with fail
          go_ret
          exact ⟨rfl, S13.out.1⟩
        | true =>
          cases vj with
          | false =>
            go_wp2_with fail
            go_ret
            exact ⟨rfl, S13.out.1⟩
          | true =>
            obtain ⟨rfl, e7⟩ := M7.out rfl rfl
            cases vl with
            | false =>
              clear e7
              go_wp2_with fail
              go_ret
              exact ⟨rfl, S13.out.1⟩
            | true =>
              obtain ⟨rfl, rfl, rfl⟩ := e7 rfl
              obtain ⟨-, -, ⟨z0, z1, z2, -, -⟩, ⟨y0, y1, y2, -, -⟩, -⟩ := S13.out
              go_wp2_with fail
              go_ret
              exact ⟨rfl, S13.out.1⟩
end Go.Proofs.Ytpeggkhbdkbjmaa
