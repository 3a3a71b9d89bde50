/-
  Layer 8, package module: what Same answers.
-/
import Derived.Test.YteimpkjpoijhmaaDoorMk
import Derived.Test.YteimpkjpoijhmaaDoorMf
import Derived.Test.YteimpkjpoijhmaaDoorHd
import Derived.Test.YteimpkjpoijhmaaDoorLh
namespace Go.Proofs.YteimpkjpoijhmaaDoor
open Go.RowKit
set_option maxRecDepth 100000
set_option linter.unusedSimpArgs false
set_option linter.unusedVariables false

set_option maxHeartbeats 1000000 in
theorem sequalV_any (A B : Option Addr) (c d n m : Nat) (L M : List Vlu) (w : World) (h1 : Rv w A c L) (h2 : Rv w B d M) (hn : L.length = n) (hm : M.length = m) : Calls Tryd.prog 37 #[.slice A n c, .slice B m d] w fun e w' => e = .returned (.bool (decide (L = M))) ∧ Below w.heap.size w w' := by
  have hl1 := h1.len
  have hl2 := h2.len
  have HR1 := Lib.hid h1
  have HR2 := Lib.hid h2
  clear h1 h2
  by_cases hnm : n = m
  · subst hn
    have hml : M.length = L.length := by omega
    subst hnm
    clear hm
    go_enter Tryd.func37, Tryd.ntmps37
    go_wp2_with fail
    go_loopw [13] (fun i wr => ∃ j : Nat, j ≤ L.length ∧ i = .int .i64 j ∧ Hid (L.take j = M.take j) ∧ Hid (Below w.heap.size w wr)) (fun i _ => L.length - (intOf i).toNat)
    case atStart => exact ⟨0, by omega, rfl, rfl, Lib.hid (Below.refl _ _)⟩
    case round =>
      obtain ⟨j, hj, rfl, HE, HB⟩ := hrel
      by_cases h : j < L.length
      · have h' : j < M.length := by omega
        obtain ⟨a1, rfl, x0, x1, x2⟩ := (HR1.out.keep HB.out).at_ h
        obtain ⟨a2, rfl, y0, y1, y2⟩ := (HR2.out.keep HB.out).at_ h'
        cases hv : decide (L[j] = M[j]) with
        | true =>
          have HN : Hid (L.take (j + 1) = M.take (j + 1)) := by
            have e : L[j] = M[j] := of_decide_eq_true hv
            rw [Hid, List.take_add_one, List.take_add_one, HE.out, List.getElem?_eq_getElem h, List.getElem?_eq_getElem h', e]
          have q := eq_val 9998 L[j].1 L[j].2.1 L[j].2.2 M[j].1 M[j].2.1 M[j].2.2 true (by rw [vlu_eq]; exact hv)
          clear HE hv
          generalize L[j] = x at *
          generalize M[j] = y at *
          go_wp2_with fail
          go_quiet (fail)
          go_wp2
          go_roundw
          case rel => exact ⟨j + 1, by omega, by go_num, HN, Lib.hid (below_draws HB.out _)⟩
          case measure => simp [intOf]; omega
        | false =>
          have HN : Hid (decide (L = M) = false) := by
            have e : ¬ L[j] = M[j] := of_decide_eq_false hv
            exact decide_eq_false fun e2 => e (by subst e2; rfl)
          have q := eq_val 9998 L[j].1 L[j].2.1 L[j].2.2 M[j].1 M[j].2.1 M[j].2.2 false (by rw [vlu_eq]; exact hv)
          clear HE hv
          generalize L[j] = x at *
          generalize M[j] = y at *
          go_wp2_with fail
          go_quiet (fail)
          go_wp2
          go_ret
          exact ⟨by rw [HN.out]; rfl, below_draws HB.out _⟩
      · obtain rfl : j = L.length := by omega
        have HN : Hid (decide (L = M) = true) := by
          have := HE.out
          rw [List.take_length, List.take_of_length_le (by omega)] at this
          exact decide_eq_true this
        go_wp2
        go_ret
        exact ⟨by rw [HN.out]; rfl, HB.out⟩
  · have HN : Hid (decide (L = M) = false) := decide_eq_false fun e => hnm (by rw [← hn, ← hm, e])
    go_enter Tryd.func37, Tryd.ntmps37
    go_wp2_with fail
    go_ret
    exact ⟨by rw [HN.out]; rfl, Below.refl _ _⟩
set_option maxHeartbeats 2000000 in
theorem smeth_v (x y : Mc) (m k : Mh) (K L : List Ins) (v : Bool) (w : World) (hx : Hd w x m) (hy : Hd w y k) (hK : Ri w x.D x.e K) (hL : Ri w y.D y.e L) (nK : K.length = x.k) (nL : L.length = y.k) (hv : (mS m k && decide (K = L)) = v) :
    Calls Tryd.prog 39 #[mv x m, mv y k] w fun r w' => r = .returned (.bool v) ∧ Below w.heap.size w w' := by
  have S0 := Lib.hid (((((((Sx.start w).add (fH x m) hx).add (fH y k) hy).add (fT x.D x.e K) hK).add (fT y.D y.e L) hL).mkM x m).mkM y k)
  rw [size1] at S0
  have P1 := fun w h1 h2 => Lib.hid (msame_v x y m k (mS m k) w h1 h2 rfl)
  have P2 := fun w h1 h2 => Lib.hid (csame_any x.D y.D x.e y.e x.k y.k K L w h1 h2 nK nL)
  have HV := Lib.hid hv
  clear hx hy hK hL nK nL hv
  obtain ⟨-, ⟨hy0, hy1, hy2, hy3, hy4, hy5, hy6, hy7, hy8⟩, ⟨hx0, hx1, hx2, hx3, hx4, hx5, hx6, hx7, hx8⟩, -⟩ := S0.out
  go_enter Tryd.func39, Tryd.ntmps39
  go_wp2_with fail
  refine (P1 _ S0.out.2.2.2.2.2.2.1 S0.out.2.2.2.2.2.1).out.mono ?_
  rintro r w1 ⟨rfl, hb⟩
  have S1 := Lib.hid (S0.out.call hb)
  clear S0 hb hy0 hy1 hy2 hy3 hy4 hy5 hy6 hy7 hy8 hx0 hx1 hx2 hx3 hx4 hx5 hx6 hx7 hx8
  cases h1 : mS m k with
  | false =>
    have HN : Hid (v = false) := by rw [Hid, ← HV.out, h1]; rfl
    clear HV h1
    go_wp2_with fail
    go_ret
    exact ⟨by rw [HN.out]; rfl, S1.out.1⟩
  | true =>
    have HN : Hid (decide (K = L) = v) := by rw [Hid, ← HV.out, h1]; rfl
    clear HV h1
    obtain ⟨-, ⟨hy0, hy1, hy2, hy3, hy4, hy5, hy6, hy7, hy8⟩, ⟨hx0, hx1, hx2, hx3, hx4, hx5, hx6, hx7, hx8⟩, -⟩ := S1.out
    go_wp2_with fail
    refine (P2 _ S1.out.2.2.2.2.1 S1.out.2.2.2.1).out.mono ?_
    rintro r w2 ⟨rfl, hb⟩
    have S2 := Lib.hid (S1.out.call hb)
    clear S1 hb hy0 hy1 hy2 hy3 hy4 hy5 hy6 hy7 hy8 hx0 hx1 hx2 hx3 hx4 hx5 hx6 hx7 hx8
    rw [HN.out]
    go_wp2_with fail
    go_ret
    exact ⟨rfl, S2.out.1⟩
set_option maxHeartbeats 2000000 in
theorem sequalM_any (A B : Option Addr) (c d n m : Nat) (Z T : List Me) (v : Bool) (w : World) (h1 : Rm w A c Z) (h2 : Rm w B d T) (hn : Z.length = n) (hm : T.length = m) (hv : qsS (Z.map ze) (T.map ze) = v) :
    Calls Tryd.prog 38 #[.slice A n c, .slice B m d, .func (.func 39) #[] #[]] w fun r w' => r = .returned (.bool v) ∧ Below w.heap.size w w' := by
  have hl1 := h1.len
  have hl2 := h2.len
  have HR1 := Lib.hid h1
  have HR2 := Lib.hid h2
  have HV := Lib.hid hv
  clear h1 h2 hv
  by_cases hnm : n = m
  · subst hn
    have hml : T.length = Z.length := by omega
    subst hnm
    clear hm
    go_enter Tryd.func38, Tryd.ntmps38
    go_wp2_with fail
    go_loopw [17] (fun i wr => ∃ j : Nat, j ≤ Z.length ∧ i = .int .i64 j ∧ Hid (qsS ((Z.map ze).drop j) ((T.map ze).drop j) = v) ∧ Hid (Below w.heap.size w wr)) (fun i _ => Z.length - (intOf i).toNat)
    case atStart => exact ⟨0, by omega, rfl, HV, Lib.hid (Below.refl _ _)⟩
    case round =>
      obtain ⟨j, hj, rfl, HE, HB⟩ := hrel
      by_cases h : j < Z.length
      · have h' : j < T.length := by omega
        have r1 := HR1.out.keep HB.out
        have r2 := HR2.out.keep HB.out
        obtain ⟨a1, rfl, ⟨x1, x2, x3, x4, x5, x6, x7, x8⟩, hokx⟩ := r1.at_ h
        obtain ⟨a2, rfl, ⟨y1, y2, y3, y4, y5, y6, y7, y8⟩, hoky⟩ := r2.at_ h'
        have HQ := Lib.hid (qsS_at (s := Z.map ze) (t := T.map ze) (j := j) (by rw [List.length_map]; exact h) (by rw [List.length_map]; exact h'))
        rw [HE.out, List.getElem_map, List.getElem_map] at HQ
        dsimp only at HQ
        clear r1 r2 HE
        generalize Z[j] = z at *
        generalize T[j] = t at *
        obtain ⟨zx, zm, zk⟩ := z
        obtain ⟨tx, tm, tk⟩ := t
        dsimp only at x1 x2 x3 x4 x5 x6 x7 x8 y1 y2 y3 y4 y5 y6 y7 y8 hokx hoky HQ
        have S0 := Lib.hid ((((((((Sx.start wr).add (fH zx zm) hokx.1).add (fH tx tm) hoky.1).add (fT zx.D zx.e zk) hokx.2.1).add (fT tx.D tx.e tk) hoky.2.1).mkM zx zm).mkM tx tm))
        rw [size1] at S0
        obtain ⟨b, hb⟩ : ∃ b, (mS zm tm && decide (zk = tk)) = b := ⟨_, rfl⟩
        rw [hb] at HQ
        have P := fun w h1 h2 h3 h4 => Lib.hid (smeth_v zx tx zm tm zk tk b w h1 h2 h3 h4 hokx.2.2 hoky.2.2 hb)
        clear hokx hoky hb
        have yk : ∀ {a : Addr} {u : Value}, wr.cell? a = some u → (wr.alloc (hcel zx zm)).cell? a = some u := fun hv => ((new1 (w := wr) (a := hcel zx zm)).cell (cell_lt hv)).trans hv
        have y1 := yk y1
        have y2 := yk y2
        have y3 := yk y3
        have y4 := yk y4
        have y5 := yk y5
        have y6 := yk y6
        have y7 := yk y7
        have y8 := yk y8
        clear yk
        go_upto_region 6 with (fail)
        have hS := size1 wr (hcel zx zm)
        have hM := Mb.new wr zx zm
        obtain ⟨wb, hwb⟩ : ∃ wb, wr.alloc (hcel zx zm) = wb := ⟨_, rfl⟩
        rw [hwb] at S0 y1 y2 y3 y4 y5 y6 y7 y8 hS hM
        rw [hcel] at hwb
        rw [hwb]
        rw [← hS] at S0
        obtain ⟨g0, g1, g2, g3, g4, g5, g6, g7, g8⟩ := hM
        clear hwb x1 x2 x3 x4 x5 x6 x7 x8
        go_wp2_with fail
        refine (P _ S0.out.2.2.2.2.2.2.1 S0.out.2.2.2.2.2.1 S0.out.2.2.2.2.1 S0.out.2.2.2.1).out.mono ?_
        rintro r w3 ⟨rfl, hb3⟩
        have HB3 := Lib.hid (HB.out.trans ((S0.out.1.trans (hb3.mono S0.out.1.size)).mono HB.out.size))
        clear hb3 S0 P hS g0 g1 g2 g3 g4 g5 g6 g7 g8 y1 y2 y3 y4 y5 y6 y7 y8 HB
        cases b with
        | false =>
          have HN : Hid (v = false) := HQ.out
          clear HQ
          go_wp2_with fail
          go_ret
          exact ⟨by rw [HN.out]; rfl, HB3.out⟩
        | true =>
          have HN : Hid (qsS ((Z.map ze).drop (j + 1)) ((T.map ze).drop (j + 1)) = v) := by rw [Hid, HQ.out]; rfl
          clear HQ
          go_wp2_with fail
          go_roundw
          case rel => exact ⟨j + 1, by omega, by go_num, HN, HB3⟩
          case measure => simp [intOf]; omega
      · obtain rfl : j = Z.length := by omega
        have HN : Hid (v = true) := by
          have := HE.out
          rw [List.drop_of_length_le (by simp), List.drop_of_length_le (by simp; omega)] at this
          exact this.symm
        clear HE
        go_wp2_with fail
        go_ret
        exact ⟨by rw [HN.out]; rfl, HB.out⟩
  · have HN : Hid (v = false) := by
      rw [Hid, ← HV.out]
      exact qsS_len (by rw [List.length_map, List.length_map]; omega)
    clear HV
    go_enter Tryd.func38, Tryd.ntmps38
    go_wp2_with fail
    go_ret
    exact ⟨by rw [HN.out]; rfl, Below.refl _ _⟩
set_option maxHeartbeats 2000000 in
theorem kmsame : KMSame fWM := by
  intro y t d e w hw hy ht hgd hge
  have HV : Hid (qS d e = (decide (d.g = e.g) && (decide (d.p = e.p) && (qsS d.s e.s && (d.i == e.i))))) := by
    rw [Hid, qS]
    cases d.i == e.i <;> cases decide (d.g = e.g) <;> cases decide (d.p = e.p) <;> cases qsS d.s e.s <;> rfl
  obtain ⟨v, hv⟩ : ∃ v, qS d e = v := ⟨_, rfl⟩
  rw [hv] at HV
  rw [hv]
  have hz1 := hy.zlen
  have hz2 := ht.zlen
  have hm1 := hy.2.2.2.1
  have hm2 := ht.2.2.2.1
  have P1 := fun w h1 h2 => Lib.hid (sequalV_any y.G t.G y.gc t.gc d.g.length e.g.length d.g e.g w h1 h2 rfl rfl)
  have P2 := fun w h1 h2 => Lib.hid (sequalV_any y.P t.P y.pc t.pc d.p.length e.p.length d.p e.p w h1 h2 rfl rfl)
  have P3 := fun w h1 h2 => Lib.hid (sequalM_any y.A t.A y.c t.c d.s.length e.s.length y.Z t.Z (qsS d.s e.s) w h1 h2 hz1 hz2 (by rw [hm1, hm2]))
  have S0 := Lib.hid (((((Sx.start w).add (fQm y d) hy).add (fQm t e) ht).mkD y d).mkD t e)
  rw [size1] at S0
  clear hw hy ht hgd hge hv hz1 hz2 hm1 hm2
  obtain ⟨-, ⟨y0, y1, y2, y3, y4⟩, ⟨x0, x1, x2, x3, x4⟩, -⟩ := S0.out
  go_enter Tryd.func13, Tryd.ntmps13
  go_wp2_with fail
  refine (P1 _ S0.out.2.2.2.2.1.1 S0.out.2.2.2.1.1).out.mono ?_
  rintro r w1 ⟨rfl, hb⟩
  have S1 := Lib.hid (S0.out.call hb)
  clear S0 hb y0 y1 y2 y3 y4 x0 x1 x2 x3 x4 P1
  cases h1 : decide (d.g = e.g) with
  | false =>
    have HN : Hid (v = false) := by rw [Hid, HV.out, h1]; rfl
    clear HV h1
    go_wp2_with fail
    go_ret
    exact ⟨by rw [HN.out]; rfl, S1.out.1⟩
  | true =>
    have HV1 : Hid (v = (decide (d.p = e.p) && (qsS d.s e.s && (d.i == e.i)))) := by rw [Hid, HV.out, h1]; rfl
    clear HV h1
    obtain ⟨-, ⟨y0, y1, y2, y3, y4⟩, ⟨x0, x1, x2, x3, x4⟩, -⟩ := S1.out
    go_wp2_with fail
    refine (P2 _ S1.out.2.2.2.2.1.2.1 S1.out.2.2.2.1.2.1).out.mono ?_
    rintro r w2 ⟨rfl, hb⟩
    have S2 := Lib.hid (S1.out.call hb)
    clear S1 hb y0 y1 y2 y3 y4 x0 x1 x2 x3 x4 P2
    cases h1 : decide (d.p = e.p) with
    | false =>
      have HN : Hid (v = false) := by rw [Hid, HV1.out, h1]; rfl
      clear HV1 h1
      go_wp2_with fail
      go_ret
      exact ⟨by rw [HN.out]; rfl, S2.out.1⟩
    | true =>
      have HV2 : Hid (v = (qsS d.s e.s && (d.i == e.i))) := by rw [Hid, HV1.out, h1]; rfl
      clear HV1 h1
      obtain ⟨-, ⟨y0, y1, y2, y3, y4⟩, ⟨x0, x1, x2, x3, x4⟩, -⟩ := S2.out
      go_wp2_with fail
      refine (P3 _ S2.out.2.2.2.2.1.2.2.1 S2.out.2.2.2.1.2.2.1).out.mono ?_
      rintro r w3 ⟨rfl, hb⟩
      have S3 := Lib.hid (S2.out.call hb)
      clear S2 hb y0 y1 y2 y3 y4 x0 x1 x2 x3 x4 P3
      cases h1 : qsS d.s e.s with
      | false =>
        have HN : Hid (v = false) := by rw [Hid, HV2.out, h1]; rfl
        clear HV2 h1
        go_wp2_with fail
        go_ret
        exact ⟨by rw [HN.out]; rfl, S3.out.1⟩
      | true =>
        have HN : Hid (v = (d.i == e.i)) := by rw [Hid, HV2.out, h1]; rfl
        clear HV2 h1
        obtain ⟨-, ⟨y0, y1, y2, y3, y4⟩, ⟨x0, x1, x2, x3, x4⟩, -⟩ := S3.out
        go_wp2_with fail
        go_ret
        exact ⟨by rw [HN.out]; rfl, S3.out.1⟩
end Go.Proofs.YteimpkjpoijhmaaDoor
