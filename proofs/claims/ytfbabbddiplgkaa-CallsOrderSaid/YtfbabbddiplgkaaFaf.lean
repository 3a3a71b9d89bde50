/-
  Layer 11: law CallsOrder.
-/
import Derived.Test.YtfbabbddiplgkaaFae
import Derived.Deep.WholeRow
namespace Go.Proofs.Ytfbabbddiplgkaa
open Go.RowKit
set_option maxRecDepth 100000
set_option linter.unusedSimpArgs false
set_option linter.unusedVariables false

abbrev fA40 (B t : Nat) (g : Nat → Value) : Fct := ⟨fun w => A40 w B t g, fun _ _ h hb => h.keep hb⟩
abbrev fC40 (p : Addr) (v : Value) : Fct := ⟨fun w => w.cell? p = some v, fun _ _ h hb => (hb.cell (cell_lt h)).trans h⟩
theorem se40_zero (l : List Nat) : se40 l 0 = fun _ => .bool false := by
  funext t
  simp [se40]
theorem pl40_zero (l : List Nat) : pl40 l 0 = fun _ => .int .i64 0 := by
  funext t
  simp [pl40]
set_option maxHeartbeats 32000000 in
theorem order11_walk (y : Ma) (d : Md) (w : World) (hq : Hq w y d) : Calls Try.prog 4 #[dv y d] w fun r w' => r = .returned (.bool true) ∧ Below w.heap.size w w' := by
  have hzi := (zero_of_info Try.infoI40).1
  rw [f40_const] at hzi
  obtain ⟨zi, hzi2⟩ : ∃ zi, f40 (fun _ => .int .i64 0) = zi := ⟨_, rfl⟩
  have HZI := Lib.hid hzi2
  rw [hzi2] at hzi
  have hzs := (zero_of_info Try.infoB40).1
  rw [f40_const] at hzs
  obtain ⟨zs, hzs2⟩ : ∃ zs, f40 (fun _ => .bool false) = zs := ⟨_, rfl⟩
  have HZS := Lib.hid hzs2
  rw [hzs2] at hzs
  clear hzi2 hzs2
  have S0 := Lib.hid ((((Sx.start w).add (fQm y d) hq).mkD y d))
  obtain ⟨B, hB⟩ : ∃ B, w.heap.size = B := ⟨_, rfl⟩
  have HBB := Lib.hid hB
  rw [hB] at S0
  clear hq
  go_enter Try.func4, Try.ntmps4
  go_upto_region 1 with (fail)
  change Code.wp _ _ _ _ (w.alloc (dcel y d))
  generalize w.alloc (dcel y d) = w1 at S0 ⊢
  clear hB
  have HAW := Lib.hid (awake11_v w1)
  go_wp2_with fail
  refine HAW.out.mono ?_
  rintro r w2 ⟨rfl, hb⟩
  have S2 := Lib.hid (S0.out.call hb)
  clear HAW hb S0
  have HGR := Lib.hid (great8_v y d w2 S2.out.2.2.1)
  obtain ⟨-, ⟨d0, d1, d2, d3, d4⟩, -⟩ := S2.out
  go_wp2_with fail
  refine HGR.out.mono ?_
  rintro r w3 ⟨rfl, hb⟩
  have S3 := Lib.hid (S2.out.call hb)
  clear HGR hb S2 d0 d1 d2 d3 d4
  cases hg : qG d with
  | true =>
    go_wp2_with fail
    go_ret
    exact ⟨rfl, S3.out.1⟩
  | false =>
  have HG := Lib.hid hg
  obtain ⟨hs40, hbl⟩ := qG_bs hg
  have HBL := Lib.hid hbl
  clear hg hbl
  have HOR := Lib.hid (order11_v y d w3 S3.out.2.2.1 (by omega) HBL.out)
  obtain ⟨-, ⟨d0, d1, d2, d3, d4⟩, -⟩ := S3.out
  go_wp2_with fail
  refine HOR.out.mono ?_
  rintro r w4 ⟨A4, c4, rfl, ho, hb⟩
  have S4 := Lib.hid ((S3.out.call hb).add (fRn A4 c4 (ro11 d).1) (Rn.of_own ho).1)
  clear HOR hb ho S3 d0 d1 d2 d3 d4
  by_cases h0 : (ro11 d).2 = 0
  · obtain ⟨o, hos⟩ := os40 h0
    have HOS := Lib.hid hos
    have HRO := Lib.hid h0
    rw [hos.ro] at S4 ⊢
    dsimp only at S4 ⊢
    have hol : (ns11 o).length = d.s.length := by rw [ns11, List.length_map, hos.len]
    rw [hol]
    clear hos h0 hol
    obtain ⟨-, -, ⟨d0, d1, d2, d3, d4⟩, -⟩ := S4.out
    go_upto_region 11 with (fail)
    obtain ⟨IB, hIB⟩ : ∃ IB, w4.heap.size = IB := ⟨_, rfl⟩
    have HIB := Lib.hid hIB
    have HI0 : Hid (A40 (w4.alloc (.cells zi 42)) IB 42 (pl40 o 0)) := Lib.hid (by rw [pl40_zero, ← HZI.out, ← hIB]; exact A40.new w4 _ _)
    have HB0 : Hid (Below IB w4 (w4.alloc (.cells zi 42))) := Lib.hid (by rw [← hIB]; exact new1)
    have hs0 : (w4.alloc (.cells zi 42)).heap.size = IB + 1 := by rw [size1, hIB]
    rw [hIB]
    generalize (w4.alloc (.cells zi 42)) = w5 at HI0 HB0 hs0 ⊢
    clear hIB d0 d1 d2 d3 d4
    go_upto_region 12 with (fail)
    obtain ⟨SB, hSB⟩ : ∃ SB, w5.heap.size = SB := ⟨_, rfl⟩
    have hIS : SB = IB + 1 := by omega
    have HS0 : Hid (A40 (w5.alloc (.cells zs 43)) SB 43 (se40 o 0)) := Lib.hid (by rw [se40_zero, ← HZS.out, ← hSB]; exact A40.new w5 _ _)
    have HI1 : Hid (A40 (w5.alloc (.cells zs 43)) IB 42 (pl40 o 0)) := Lib.hid (HI0.out.keep new1)
    have HB1 : Hid (Below IB w4 (w5.alloc (.cells zs 43))) := Lib.hid (HB0.out.alloc (by omega) _)
    have hs1 : SB + 1 ≤ (w5.alloc (.cells zs 43)).heap.size := by rw [size1]; omega
    rw [← hIS]
    generalize (w5.alloc (.cells zs 43)) = w6 at HS0 HI1 HB1 hs1 ⊢
    have hlt : IB < SB := by omega
    clear hSB hs0 HI0 HB0 hIS
    go_wp2_with fail
    go_loopw [7, 8] (fun pv iv wr => ∃ (i : Nat) (b : Bool), i ≤ d.s.length ∧ iv = .int .i64 i ∧ pv = .bool b ∧ Hid (b = np40 d i) ∧ Hid (A40 wr IB 42 (pl40 o i)) ∧ Hid (A40 wr SB 43 (se40 o i)) ∧ Hid (Below IB w4 wr) ∧ SB + 1 ≤ wr.heap.size) (fun _ iv _ => d.s.length - (intOf iv).toNat)
    case atStart => exact ⟨0, true, by omega, rfl, rfl, Lib.hid rfl, HI1, HS0, HB1, hs1⟩
    case round =>
      clear HI1 HS0 HB1 hs1
      obtain ⟨i, b, hi, rfl, rfl, HP, HI, HS, HB, hs⟩ := hrel
      rename World => wr
      have SQ := Lib.hid (S4.out.call (by rw [HIB.out]; exact HB.out))
      by_cases h1 : i < d.s.length
      · as_aux_lemma =>
        obtain ⟨x, hx⟩ : ∃ x, o[i]? = some x := ⟨_, List.getElem?_eq_getElem (by rw [HOS.out.len]; exact h1)⟩
        have HX := Lib.hid hx
        obtain ⟨hxn, hxc, -⟩ := HOS.out.at_ hx
        obtain ⟨ad4, hA4, y0⟩ := SQ.out.2.1.at_ (ns11_at hx)
        subst hA4
        have c0 := HS.out.cell (i := x) (by omega)
        rw [se40, hxc] at c0
        have f0 := HS.out.froz x
        have hx40 : (x : Int) < 40 := by omega
        have hl0 := HS.out.lt
        clear hx hxc
        go_upto_region 19 with (fail)
        have HS2 := Lib.hid (HS.out.put (se40_next HX.out).1 (se40_next HX.out).2)
        have HI2 := Lib.hid (HI.out.other (p := ⟨SB, x, none⟩) (show SB ≠ IB by omega) (.bool true))
        have HB2 := Lib.hid (HB.out.setCell (p := ⟨SB, x, none⟩) (show IB ≤ SB by omega) (.bool true))
        have hs2 : SB + 1 ≤ (wr.setCell ⟨SB, x, none⟩ (.bool true)).heap.size := by simp; omega
        generalize wr.setCell ⟨SB, x, none⟩ (.bool true) = wt at HS2 HI2 HB2 hs2 ⊢
        clear HS HI HB hs y0 c0 f0 SQ hl0
        have SQ := Lib.hid (S4.out.call (by rw [HIB.out]; exact HB2.out))
        obtain ⟨ad4', hA4', y0⟩ := SQ.out.2.1.at_ (ns11_at HX.out)
        obtain rfl := Option.some.inj hA4'
        have c0 := HI2.out.cell (i := x) (by omega)
        have f0 := HI2.out.froz x
        have hl0 := HI2.out.lt
        clear hA4'
        go_upto_region 20 with (fail)
        have HI3 := Lib.hid (HI2.out.put (HOS.out.pl_next HX.out).1 (HOS.out.pl_next HX.out).2)
        have HS3 := Lib.hid (HS2.out.other (p := ⟨IB, x, none⟩) (show IB ≠ SB by omega) (.int .i64 (i : Int)))
        have HB3 := Lib.hid (HB2.out.setCell (p := ⟨IB, x, none⟩) (Nat.le_refl _) (.int .i64 (i : Int)))
        have hs3 : SB + 1 ≤ (wt.setCell ⟨IB, x, none⟩ (.int .i64 (i : Int))).heap.size := by simp; omega
        generalize wt.setCell ⟨IB, x, none⟩ (.int .i64 (i : Int)) = wu at HI3 HS3 HB3 hs3 ⊢
        clear HS2 HI2 HB2 hs2 y0 c0 f0 SQ hl0
        have SQ := Lib.hid (S4.out.call (by rw [HIB.out]; exact HB3.out))
        have HWH := Lib.hid (whom11_v y d i wu SQ.out.2.2.2.1 (by omega) HBL.out)
        rw [wh11_ck HRO.out h1] at HWH
        obtain ⟨kn, hkn⟩ : ∃ kn, (ns11 (ck11 d i)).length = kn := ⟨_, rfl⟩
        have HKN := Lib.hid hkn
        obtain ⟨-, -, ⟨d0, d1, d2, d3, d4⟩, -⟩ := SQ.out
        clear hkn
        go_wp2_with fail
        refine HWH.out.mono ?_
        rintro r wv ⟨A6, c6, rfl, ho, hb⟩
        have HI4 := Lib.hid (HI3.out.keep hb)
        have HS4 := Lib.hid (HS3.out.keep hb)
        have HB4 := Lib.hid (HB3.out.trans (hb.mono (by omega)))
        have hs4 : SB + 1 ≤ wv.heap.size := Nat.le_trans hs3 hb.size
        dsimp only
        rw [HKN.out]
        clear HWH hb ho HI3 HS3 HB3 hs3 SQ d0 d1 d2 d3 d4
        obtain ⟨v, hv⟩ : ∃ v, ((kn : Int) == 0) = v := ⟨_, rfl⟩
        have HP2 : Hid ((b && v) = np40 d (i + 1)) := Lib.hid (by
          rw [np40_next, ← HP.out, ← hv, ← HKN.out, ns11, List.length_map]
          congr 1)
        cases b with
        | true =>
          go_wp2_with fail
          go_roundw
          case rel => exact ⟨i + 1, v, by omega, by go_num, rfl, Lib.hid (by have h := HP2.out; rw [Bool.true_and] at h; exact h), HI4, HS4, HB4, hs4⟩
          case measure => simp [intOf]; omega
        | false =>
          go_wp2_with fail
          go_roundw
          case rel => exact ⟨i + 1, false, by omega, by go_num, rfl, Lib.hid (by have h := HP2.out; rw [Bool.false_and] at h; exact h), HI4, HS4, HB4, hs4⟩
          case measure => simp [intOf]; omega
      · obtain rfl : i = d.s.length := by omega
        have S7 : Hid (Sx w wr [fA40 IB 42 (pl40 o d.s.length), fRn A4 c4 (ns11 o), fD B y d, fQm y d]) := Lib.hid (SQ.out.add (fA40 IB 42 (pl40 o d.s.length)) HI.out)
        clear SQ HI HS HB hs S4
        go_wp2_with fail
        go_loopw [11] (fun kv wr => ∃ k : Nat, k ≤ d.s.length ∧ kv = .int .i64 k ∧ Hid (Sx w wr [fA40 IB 42 (pl40 o d.s.length), fRn A4 c4 (ns11 o), fD B y d, fQm y d])) (fun kv _ => d.s.length - (intOf kv).toNat)
        case atStart => exact ⟨0, by omega, rfl, S7⟩
        case round =>
          clear S7
          obtain ⟨k, hk, rfl, SK⟩ := hrel
          rename World => wk
          by_cases h1 : k < d.s.length
          · have HLE := Lib.hid (leadsT_v y d k wk SK.out.2.2.2.2.1 (by omega) HBL.out)
            obtain ⟨L, hL⟩ : ∃ L, lk11 d k = L := ⟨_, rfl⟩
            have HLL := Lib.hid hL
            rw [le11_lk HRO.out h1, hL] at HLE
            obtain ⟨ln, hln⟩ : ∃ ln, L.length = ln := ⟨_, rfl⟩
            have HLN := Lib.hid hln
            have hnl : (ns11 L).length = ln := by rw [ns11, List.length_map, hln]
            have hln9 : ln ≤ 40 := by have := lk11_len d k; rw [hL, hln] at this; omega
            obtain ⟨-, -, -, ⟨d0, d1, d2, d3, d4⟩, -⟩ := SK.out
            clear hL hln
            go_wp2_with fail
            refine HLE.out.mono ?_
            rintro r w8 ⟨A8, c8, rfl, ho, hb⟩
            have S8 := Lib.hid ((SK.out.call hb).add (fRn A8 c8 (ns11 L)) (Rn.of_own ho).1)
            dsimp only
            rw [hnl]
            clear HLE hb ho SK d0 d1 d2 d3 d4 hnl
            cases b with
            | true =>
              as_aux_lemma =>
              obtain ⟨hok, hlk, hck⟩ := HOS.out.plain HP.out.symm h1
              obtain ⟨ad4, hA4, y0⟩ := S8.out.2.2.2.1.at_ (ns11_at hok)
              subst hA4
              obtain rfl : ln = 0 := by rw [← HLN.out, ← HLL.out, hlk]; rfl
              clear hok hlk
              go_upto_region 31 with (fail)
              clear y0
              obtain ⟨NB, hNB⟩ : ∃ NB, w8.heap.size = NB := ⟨_, rfl⟩
              have HNB := Lib.hid hNB
              have hIN : IB < NB := by rw [← hNB]; exact S8.out.2.2.1.lt
              have HA0 : Hid (A40 (w8.alloc (.cells zs 43)) NB 43 (se40 L 0)) := Lib.hid (by rw [se40_zero, ← HZS.out, ← hNB]; exact A40.new w8 _ _)
              have HB0 : Hid (Below NB w8 (w8.alloc (.cells zs 43))) := Lib.hid (by rw [← hNB]; exact new1)
              have hs0 : NB + 1 ≤ (w8.alloc (.cells zs 43)).heap.size := by rw [size1]; omega
              rw [hNB]
              generalize (w8.alloc (.cells zs 43)) = w9 at HA0 HB0 hs0 ⊢
              clear hNB
              go_wp2_with fail
              have S9 : Hid (Sx w w9 [fA40 IB 42 (pl40 o d.s.length), fRn (some ad4) c4 (ns11 o), fD B y d, fQm y d]) := Lib.hid ⟨(S8.out.call (by rw [HNB.out]; exact HB0.out)).1, (S8.out.call (by rw [HNB.out]; exact HB0.out)).2.2⟩
              clear HA0 HB0 hs0 S8
              go_loopw [15] (fun iv wq => iv = .int .i64 0 ∧ w9 = wq) (fun _ _ => 0)
              case atStart => exact ⟨rfl, rfl⟩
              case round =>
                obtain ⟨rfl, hwq⟩ := hrel
                subst hwq
                have HWH := Lib.hid (whom11_v y d k w9 S9.out.2.2.2.2.1 (by omega) HBL.out)
                rw [wh11_ck HRO.out h1, hck] at HWH
                obtain ⟨-, -, -, ⟨d0, d1, d2, d3, d4⟩, -⟩ := S9.out
                go_wp2_with fail
                refine HWH.out.mono ?_
                rintro r w10 ⟨A10, c10, rfl, ho, hb⟩
                have S10 := Lib.hid (S9.out.call hb)
                dsimp only
                rw [show (ns11 []).length = 0 from rfl]
                clear HWH hb ho S9 d0 d1 d2 d3 d4
                go_wp2_with fail
                go_loopw [18] (fun iv wv => iv = .int .i64 0 ∧ w10 = wv) (fun _ _ => 0)
                case atStart => exact ⟨rfl, rfl⟩
                case round =>
                  obtain ⟨rfl, hwv⟩ := hrel
                  subst hwv
                  go_wp2_with fail
                  go_roundw
                  case rel => exact ⟨k + 1, by omega, by go_num, S10⟩
                  case measure => simp [intOf]; omega
            | false =>
              as_aux_lemma =>
              go_upto_region 31 with (fail)
              obtain ⟨NB, hNB⟩ : ∃ NB, w8.heap.size = NB := ⟨_, rfl⟩
              have HNB := Lib.hid hNB
              have hIN : IB < NB := by rw [← hNB]; exact S8.out.2.2.1.lt
              have HA0 : Hid (A40 (w8.alloc (.cells zs 43)) NB 43 (se40 L 0)) := Lib.hid (by rw [se40_zero, ← HZS.out, ← hNB]; exact A40.new w8 _ _)
              have HB0 : Hid (Below NB w8 (w8.alloc (.cells zs 43))) := Lib.hid (by rw [← hNB]; exact new1)
              have hs0 : NB + 1 ≤ (w8.alloc (.cells zs 43)).heap.size := by rw [size1]; omega
              rw [hNB]
              generalize (w8.alloc (.cells zs 43)) = w9 at HA0 HB0 hs0 ⊢
              clear hNB
              go_wp2_with fail
              go_loopw [15] (fun iv wq => ∃ i : Nat, i ≤ ln ∧ iv = .int .i64 i ∧ Hid (A40 wq NB 43 (se40 L i)) ∧ Hid (Below NB w8 wq) ∧ NB + 1 ≤ wq.heap.size) (fun iv _ => ln - (intOf iv).toNat)
              case atStart => exact ⟨0, by omega, rfl, HA0, HB0, hs0⟩
              case round =>
                clear HA0 HB0 hs0
                obtain ⟨i, hi, rfl, HA, HB, hs⟩ := hrel
                rename World => wq
                have SI := Lib.hid (S8.out.call (by rw [HNB.out]; exact HB.out))
                by_cases h2 : i < ln
                · as_aux_lemma =>
                  obtain ⟨t, ht⟩ : ∃ t, L[i]? = some t := ⟨_, List.getElem?_eq_getElem (by rw [HLN.out]; exact h2)⟩
                  obtain ⟨htn, htk, hrk⟩ := HOS.out.rank h1 (by rw [HLL.out]; exact List.mem_of_getElem? ht)
                  obtain ⟨ad8, hA8, y0⟩ := SI.out.2.1.at_ (ns11_at ht)
                  subst hA8
                  have hia := SI.out.2.2.1
                  dsimp only at hia
                  have c1 := hia.cell (i := t) (by omega)
                  have c2 := hia.cell (i := k) (by omega)
                  rw [HOS.out.pl_end (Nat.le_of_eq HOS.out.len) htn] at c1
                  rw [HOS.out.pl_end (Nat.le_of_eq HOS.out.len) h1] at c2
                  obtain ⟨P, hP⟩ : ∃ P, o.idxOf t = P := ⟨_, rfl⟩
                  obtain ⟨R, hR⟩ : ∃ R, o.idxOf k = R := ⟨_, rfl⟩
                  rw [hP] at c1 hrk
                  rw [hR] at c2 hrk
                  have f0 := HA.out.froz t
                  have c3 := HA.out.cell (i := t) (by omega)
                  have hl0 := HA.out.lt
                  have HA2 := Lib.hid (HA.out.put (se40_next ht).1 (se40_next ht).2)
                  have HB2 := Lib.hid (HB.out.setCell (p := ⟨NB, t, none⟩) (Nat.le_refl _) (.bool true))
                  have hs2 : NB + 1 ≤ (wq.setCell ⟨NB, t, none⟩ (.bool true)).heap.size := by simp; omega
                  have hk40 : (k : Int) < 40 := by omega
                  have ht40 : (t : Int) < 40 := by omega
                  have q1 : decide ((t : Int) < 0) = false := by simp
                  have q2 : decide (d.s.length ≤ t) = false := by simp; omega
                  have q2' : decide ((d.s.length : Int) ≤ t) = false := by simp; omega
                  have q3 : ((t : Int) == k) = false := by simp; omega
                  have q4 : decide (R ≤ P) = false := by simp; omega
                  have q4' : decide ((R : Int) ≤ P) = false := by simp; omega
                  by_cases hi0 : i = 0
                  · as_aux_lemma =>
                    have q5 : decide (0 < i) = false := by simp; omega
                    have q5' : decide ((0 : Int) < i) = false := by simp; omega
                    clear ht hP hR hia hi0 SI
                    go_wp2_with fail
                    refine wp_region_held_drew (S := fun w' => w'.cell? (ad8.add i) = some (.int .i64 (t : Int)) ∧ w'.cell? ⟨IB, t, none⟩ = some (.int .i64 (P : Int)) ∧ w'.cell? ⟨IB, k, none⟩ = some (.int .i64 (R : Int))) (by kernel_rfl) (⟨y0, c1, c2⟩) (fun hHeld => ?_)
                    refine wpAnyH_take (i := 0) (v := ?_) rfl (by kernel_rfl) (by kernel_rfl) (by kernel_rfl) (fun _ _ _ h => h) (Or.inl ⟨by rfl, ?_⟩) (by assumption) ?_
                    rotate_left 1
                    · intro w _; go_simp; try with_reducible rfl
                    try simp only [Act.put, List.getElem_toArray, List.getElem_cons_zero, List.getElem_cons_succ, List.setIfInBounds_toArray, List.set_cons_zero, List.set_cons_succ]
                    refine wpAnyH_take (i := 1) (v := ?_) rfl (by kernel_rfl) (by kernel_rfl) (by kernel_rfl) (fun _ _ _ h => h) (Or.inl ⟨by rfl, ?_⟩) (by assumption) ?_
                    rotate_left 1
                    · intro w _; go_simp; try with_reducible rfl
                    try simp only [Act.put, List.getElem_toArray, List.getElem_cons_zero, List.getElem_cons_succ, List.setIfInBounds_toArray, List.set_cons_zero, List.set_cons_succ]
                    refine wpAnyH_take (i := 2) (v := ?_) rfl (by kernel_rfl) (by kernel_rfl) (by kernel_rfl) (fun _ _ _ h => h) (Or.inl ⟨by rfl, ?_⟩) (by assumption) ?_
                    rotate_left 1
                    · intro w _; go_simp; try with_reducible rfl
                    try simp only [Act.put, List.getElem_toArray, List.getElem_cons_zero, List.getElem_cons_succ, List.setIfInBounds_toArray, List.set_cons_zero, List.set_cons_succ]
                    refine wpAnyH_take (i := 3) (v := ?_) rfl (by kernel_rfl) (by kernel_rfl) (by kernel_rfl) (fun _ _ _ h => h) (Or.inl ⟨by rfl, ?_⟩) (by assumption) ?_
                    rotate_left 1
                    · intro w hSw; (try dsimp only at hSw); obtain ⟨s0, s1, s2⟩ := hSw; go_simp; try with_reducible rfl
                    try simp only [Act.put, List.getElem_toArray, List.getElem_cons_zero, List.getElem_cons_succ, List.setIfInBounds_toArray, List.set_cons_zero, List.set_cons_succ]
                    refine wpAnyH_take (i := 4) (v := ?_) rfl (by kernel_rfl) (by kernel_rfl) (by kernel_rfl) (fun _ _ _ h => h) (Or.inl ⟨by rfl, ?_⟩) (by assumption) ?_
                    rotate_left 1
                    · intro w _; go_simp; try with_reducible rfl
                    try simp only [Act.put, List.getElem_toArray, List.getElem_cons_zero, List.getElem_cons_succ, List.setIfInBounds_toArray, List.set_cons_zero, List.set_cons_succ]
                    refine wpAnyH_take (i := 5) (v := ?_) rfl (by kernel_rfl) (by kernel_rfl) (by kernel_rfl) (fun _ _ _ h => h) (Or.inl ⟨by rfl, ?_⟩) (by assumption) ?_
                    rotate_left 1
                    · intro w _; go_simp; try with_reducible rfl
                    try simp only [Act.put, List.getElem_toArray, List.getElem_cons_zero, List.getElem_cons_succ, List.setIfInBounds_toArray, List.set_cons_zero, List.set_cons_succ]
                    refine wpAnyH_take (i := 6) (v := ?_) rfl (by kernel_rfl) (by kernel_rfl) (by kernel_rfl) (fun _ _ _ h => h) (Or.inl ⟨by rfl, ?_⟩) (by assumption) ?_
                    rotate_left 1
                    · intro w _; go_simp; try with_reducible rfl
                    try simp only [Act.put, List.getElem_toArray, List.getElem_cons_zero, List.getElem_cons_succ, List.setIfInBounds_toArray, List.set_cons_zero, List.set_cons_succ]
                    refine wpAnyH_take (i := 7) (v := ?_) rfl (by kernel_rfl) (by kernel_rfl) (by kernel_rfl) (fun _ _ _ h => h) (Or.inl ⟨by rfl, ?_⟩) (by assumption) ?_
                    rotate_left 1
                    · intro w _; go_simp; try with_reducible rfl
                    try simp only [Act.put, List.getElem_toArray, List.getElem_cons_zero, List.getElem_cons_succ, List.setIfInBounds_toArray, List.set_cons_zero, List.set_cons_succ]
                    refine wpAnyH_take (i := 8) (v := ?_) rfl (by kernel_rfl) (by kernel_rfl) (by kernel_rfl) (fun _ _ _ h => h) (Or.inl ⟨by rfl, ?_⟩) (by assumption) ?_
                    rotate_left 1
                    · intro w _; go_simp; try with_reducible rfl
                    try simp only [Act.put, List.getElem_toArray, List.getElem_cons_zero, List.getElem_cons_succ, List.setIfInBounds_toArray, List.set_cons_zero, List.set_cons_succ]
                    refine wpAnyH_take (i := 9) (v := ?_) rfl (by kernel_rfl) (by kernel_rfl) (by kernel_rfl) (fun _ _ _ h => h) (Or.inl ⟨by rfl, ?_⟩) (by assumption) ?_
                    rotate_left 1
                    · intro w hSw; (try dsimp only at hSw); obtain ⟨s0, s1, s2⟩ := hSw; go_simp; try with_reducible rfl
                    try simp only [Act.put, List.getElem_toArray, List.getElem_cons_zero, List.getElem_cons_succ, List.setIfInBounds_toArray, List.set_cons_zero, List.set_cons_succ]
                    refine wpAnyH_take (i := 10) (v := ?_) rfl (by kernel_rfl) (by kernel_rfl) (by kernel_rfl) (fun _ _ _ h => h) (Or.inl ⟨by rfl, ?_⟩) (by assumption) ?_
                    rotate_left 1
                    · intro w _; go_simp; try with_reducible rfl
                    try simp only [Act.put, List.getElem_toArray, List.getElem_cons_zero, List.getElem_cons_succ, List.setIfInBounds_toArray, List.set_cons_zero, List.set_cons_succ]
                    refine wpAnyH_take (i := 11) (v := ?_) rfl (by kernel_rfl) (by kernel_rfl) (by kernel_rfl) (fun _ _ _ h => h) (Or.inl ⟨by rfl, ?_⟩) (by assumption) ?_
                    rotate_left 1
                    · intro w _; go_simp; try with_reducible rfl
                    try simp only [Act.put, List.getElem_toArray, List.getElem_cons_zero, List.getElem_cons_succ, List.setIfInBounds_toArray, List.set_cons_zero, List.set_cons_succ]
                    refine wpAnyH_take (i := 12) (v := ?_) rfl (by kernel_rfl) (by kernel_rfl) (by kernel_rfl) (fun _ _ _ h => h) (Or.inl ⟨by rfl, ?_⟩) (by assumption) ?_
                    rotate_left 1
                    · intro w _; go_simp; try with_reducible rfl
                    try simp only [Act.put, List.getElem_toArray, List.getElem_cons_zero, List.getElem_cons_succ, List.setIfInBounds_toArray, List.set_cons_zero, List.set_cons_succ]
                    refine wpAnyH_take (i := 13) (v := ?_) rfl (by kernel_rfl) (by kernel_rfl) (by kernel_rfl) (fun _ _ _ h => h) (Or.inl ⟨by rfl, ?_⟩) (by assumption) ?_
                    rotate_left 1
                    · intro w _; go_simp; try with_reducible rfl
                    try simp only [Act.put, List.getElem_toArray, List.getElem_cons_zero, List.getElem_cons_succ, List.setIfInBounds_toArray, List.set_cons_zero, List.set_cons_succ]
                    refine wpAnyH_take (i := 14) (v := ?_) rfl (by kernel_rfl) (by kernel_rfl) (by kernel_rfl) (fun _ _ _ h => h) (Or.inl ⟨by rfl, ?_⟩) (by assumption) ?_
                    rotate_left 1
                    · intro w _; go_simp; try with_reducible rfl
                    try simp only [Act.put, List.getElem_toArray, List.getElem_cons_zero, List.getElem_cons_succ, List.setIfInBounds_toArray, List.set_cons_zero, List.set_cons_succ]
                    refine wpAnyH_take (i := 15) (v := ?_) rfl (by kernel_rfl) (by kernel_rfl) (by kernel_rfl) (fun _ _ _ h => h) (Or.inl ⟨by rfl, ?_⟩) (by assumption) ?_
                    rotate_left 1
                    · intro w _; go_simp; try with_reducible rfl
                    try simp only [Act.put, List.getElem_toArray, List.getElem_cons_zero, List.getElem_cons_succ, List.setIfInBounds_toArray, List.set_cons_zero, List.set_cons_succ]
                    refine wpAnyH_take (i := 16) (v := ?_) rfl (by kernel_rfl) (by kernel_rfl) (by kernel_rfl) (fun _ _ _ h => h) (Or.inl ⟨by rfl, ?_⟩) (by assumption) ?_
                    rotate_left 1
                    · intro w _; go_simp; try with_reducible rfl
                    try simp only [Act.put, List.getElem_toArray, List.getElem_cons_zero, List.getElem_cons_succ, List.setIfInBounds_toArray, List.set_cons_zero, List.set_cons_succ]
                    refine wpAnyH_take (i := 17) (v := ?_) rfl (by kernel_rfl) (by kernel_rfl) (by kernel_rfl) (fun _ _ _ h => h) (Or.inl ⟨by rfl, ?_⟩) (by assumption) ?_
                    rotate_left 1
                    · intro w _; go_simp; try with_reducible rfl
                    try simp only [Act.put, List.getElem_toArray, List.getElem_cons_zero, List.getElem_cons_succ, List.setIfInBounds_toArray, List.set_cons_zero, List.set_cons_succ]
                    refine wpAnyH_take (i := 18) (v := ?_) rfl (by kernel_rfl) (by kernel_rfl) (by kernel_rfl) (fun _ _ _ h => h) (Or.inl ⟨by rfl, ?_⟩) (by assumption) ?_
                    rotate_left 1
                    · intro w hSw; (try dsimp only at hSw); obtain ⟨s0, s1, s2⟩ := hSw; go_simp; try with_reducible rfl
                    try simp only [Act.put, List.getElem_toArray, List.getElem_cons_zero, List.getElem_cons_succ, List.setIfInBounds_toArray, List.set_cons_zero, List.set_cons_succ]
                    refine wpAnyH_take (i := 19) (v := ?_) rfl (by kernel_rfl) (by kernel_rfl) (by kernel_rfl) (fun _ _ _ h => h) (Or.inl ⟨by rfl, ?_⟩) (by assumption) ?_
                    rotate_left 1
                    · intro w _; go_simp; try with_reducible rfl
                    try simp only [Act.put, List.getElem_toArray, List.getElem_cons_zero, List.getElem_cons_succ, List.setIfInBounds_toArray, List.set_cons_zero, List.set_cons_succ]
                    refine wpAnyH_take (i := 20) (v := ?_) rfl (by kernel_rfl) (by kernel_rfl) (by kernel_rfl) (fun _ _ _ h => h) (Or.inl ⟨by rfl, ?_⟩) (by assumption) ?_
                    rotate_left 1
                    · intro w _; go_simp; try with_reducible rfl
                    try simp only [Act.put, List.getElem_toArray, List.getElem_cons_zero, List.getElem_cons_succ, List.setIfInBounds_toArray, List.set_cons_zero, List.set_cons_succ]
                    refine wpAnyH_take (i := 21) (v := ?_) rfl (by kernel_rfl) (by kernel_rfl) (by kernel_rfl) (fun _ _ _ h => h) (Or.inl ⟨by rfl, ?_⟩) (by assumption) ?_
                    rotate_left 1
                    · intro w _; go_simp; try with_reducible rfl
                    try simp only [Act.put, List.getElem_toArray, List.getElem_cons_zero, List.getElem_cons_succ, List.setIfInBounds_toArray, List.set_cons_zero, List.set_cons_succ]
                    refine wpAnyH_take (i := 22) (v := ?_) rfl (by kernel_rfl) (by kernel_rfl) (by kernel_rfl) (fun _ _ _ h => h) (Or.inl ⟨by rfl, ?_⟩) (by assumption) ?_
                    rotate_left 1
                    · intro w _; go_simp; try with_reducible rfl
                    try simp only [Act.put, List.getElem_toArray, List.getElem_cons_zero, List.getElem_cons_succ, List.setIfInBounds_toArray, List.set_cons_zero, List.set_cons_succ]
                    refine wpAnyH_take (i := 23) (v := ?_) rfl (by kernel_rfl) (by kernel_rfl) (by kernel_rfl) (fun _ _ _ h => h) (Or.inl ⟨by rfl, ?_⟩) (by assumption) ?_
                    rotate_left 1
                    · intro w _; go_simp; try with_reducible rfl
                    try simp only [Act.put, List.getElem_toArray, List.getElem_cons_zero, List.getElem_cons_succ, List.setIfInBounds_toArray, List.set_cons_zero, List.set_cons_succ]
                    refine wpAnyH_take (i := 24) (v := ?_) rfl (by kernel_rfl) (by kernel_rfl) (by kernel_rfl) (fun _ _ _ h => h) (Or.inl ⟨by rfl, ?_⟩) (by assumption) ?_
                    rotate_left 1
                    · intro w _; go_simp; try with_reducible rfl
                    try simp only [Act.put, List.getElem_toArray, List.getElem_cons_zero, List.getElem_cons_succ, List.setIfInBounds_toArray, List.set_cons_zero, List.set_cons_succ]
                    refine wpAnyH_take (i := 25) (v := ?_) rfl (by kernel_rfl) (by kernel_rfl) (by kernel_rfl) (fun _ _ _ h => h) (Or.inl ⟨by rfl, ?_⟩) (by assumption) ?_
                    rotate_left 1
                    · intro w _; go_simp; try with_reducible rfl
                    try simp only [Act.put, List.getElem_toArray, List.getElem_cons_zero, List.getElem_cons_succ, List.setIfInBounds_toArray, List.set_cons_zero, List.set_cons_succ]
                    refine wpAnyH_take (i := 26) (v := ?_) rfl (by kernel_rfl) (by kernel_rfl) (by kernel_rfl) (fun _ _ _ h => h) (Or.inl ⟨by rfl, ?_⟩) (by assumption) ?_
                    rotate_left 1
                    · intro w hSw; (try dsimp only at hSw); obtain ⟨s0, s1, s2⟩ := hSw; go_simp; try with_reducible rfl
                    try simp only [Act.put, List.getElem_toArray, List.getElem_cons_zero, List.getElem_cons_succ, List.setIfInBounds_toArray, List.set_cons_zero, List.set_cons_succ]
                    refine wpAnyH_take (i := 27) (v := ?_) rfl (by kernel_rfl) (by kernel_rfl) (by kernel_rfl) (fun _ _ _ h => h) (Or.inl ⟨by rfl, ?_⟩) (by assumption) ?_
                    rotate_left 1
                    · intro w _; go_simp; try with_reducible rfl
                    try simp only [Act.put, List.getElem_toArray, List.getElem_cons_zero, List.getElem_cons_succ, List.setIfInBounds_toArray, List.set_cons_zero, List.set_cons_succ]
                    refine wpAnyH_take (i := 28) (v := ?_) rfl (by kernel_rfl) (by kernel_rfl) (by kernel_rfl) (fun _ _ _ h => h) (Or.inl ⟨by rfl, ?_⟩) (by assumption) ?_
                    rotate_left 1
                    · intro w hSw; (try dsimp only at hSw); obtain ⟨s0, s1, s2⟩ := hSw; go_simp; try with_reducible rfl
                    try simp only [Act.put, List.getElem_toArray, List.getElem_cons_zero, List.getElem_cons_succ, List.setIfInBounds_toArray, List.set_cons_zero, List.set_cons_succ]
                    refine wpAnyH_take (i := 29) (v := ?_) rfl (by kernel_rfl) (by kernel_rfl) (by kernel_rfl) (fun _ _ _ h => h) (Or.inl ⟨by rfl, ?_⟩) (by assumption) ?_
                    rotate_left 1
                    · intro w _; go_simp; try with_reducible rfl
                    try simp only [Act.put, List.getElem_toArray, List.getElem_cons_zero, List.getElem_cons_succ, List.setIfInBounds_toArray, List.set_cons_zero, List.set_cons_succ]
                    refine wpAnyH_take (i := 30) (v := ?_) rfl (by kernel_rfl) (by kernel_rfl) (by kernel_rfl) (fun _ _ _ h => h) (Or.inl ⟨by rfl, ?_⟩) (by assumption) ?_
                    rotate_left 1
                    · intro w _; go_simp; try with_reducible rfl
                    try simp only [Act.put, List.getElem_toArray, List.getElem_cons_zero, List.getElem_cons_succ, List.setIfInBounds_toArray, List.set_cons_zero, List.set_cons_succ]
                    refine wpAnyH_take (i := 31) (v := ?_) rfl (by kernel_rfl) (by kernel_rfl) (by kernel_rfl) (fun _ _ _ h => h) (Or.inl ⟨by rfl, ?_⟩) (by assumption) ?_
                    rotate_left 1
                    · intro w hSw; (try dsimp only at hSw); obtain ⟨s0, s1, s2⟩ := hSw; go_simp; try with_reducible rfl
                    try simp only [Act.put, List.getElem_toArray, List.getElem_cons_zero, List.getElem_cons_succ, List.setIfInBounds_toArray, List.set_cons_zero, List.set_cons_succ]
                    refine wpAnyH_take (i := 32) (v := ?_) rfl (by kernel_rfl) (by kernel_rfl) (by kernel_rfl) (fun _ _ _ h => h) (Or.inl ⟨by rfl, ?_⟩) (by assumption) ?_
                    rotate_left 1
                    · intro w _; go_simp; try with_reducible rfl
                    try simp only [Act.put, List.getElem_toArray, List.getElem_cons_zero, List.getElem_cons_succ, List.setIfInBounds_toArray, List.set_cons_zero, List.set_cons_succ]
                    refine wpAnyH_take (i := 33) (v := ?_) rfl (by kernel_rfl) (by kernel_rfl) (by kernel_rfl) (fun _ _ _ h => h) (Or.inl ⟨by rfl, ?_⟩) (by assumption) ?_
                    rotate_left 1
                    · intro w _; go_simp; try with_reducible rfl
                    try simp only [Act.put, List.getElem_toArray, List.getElem_cons_zero, List.getElem_cons_succ, List.setIfInBounds_toArray, List.set_cons_zero, List.set_cons_succ]
                    refine wpAnyH_take (i := 34) (v := ?_) rfl (by kernel_rfl) (by kernel_rfl) (by kernel_rfl) (fun _ _ _ h => h) (Or.inl ⟨by rfl, ?_⟩) (by assumption) ?_
                    rotate_left 1
                    · intro w _; go_simp; try with_reducible rfl
                    try simp only [Act.put, List.getElem_toArray, List.getElem_cons_zero, List.getElem_cons_succ, List.setIfInBounds_toArray, List.set_cons_zero, List.set_cons_succ]
                    refine wpAnyH_take (i := 35) (v := ?_) rfl (by kernel_rfl) (by kernel_rfl) (by kernel_rfl) (fun _ _ _ h => h) (Or.inl ⟨by rfl, ?_⟩) (by assumption) ?_
                    rotate_left 1
                    · intro w _; go_simp; try with_reducible rfl
                    try simp only [Act.put, List.getElem_toArray, List.getElem_cons_zero, List.getElem_cons_succ, List.setIfInBounds_toArray, List.set_cons_zero, List.set_cons_succ]
                    refine wpAnyH_take (i := 36) (v := ?_) rfl (by kernel_rfl) (by kernel_rfl) (by kernel_rfl) (fun _ _ _ h => h) (Or.inl ⟨by rfl, ?_⟩) (by assumption) ?_
                    rotate_left 1
                    · intro w _; go_simp; try with_reducible rfl
                    try simp only [Act.put, List.getElem_toArray, List.getElem_cons_zero, List.getElem_cons_succ, List.setIfInBounds_toArray, List.set_cons_zero, List.set_cons_succ]
                    refine wpAnyH_take (i := 37) (v := ?_) rfl (by kernel_rfl) (by kernel_rfl) (by kernel_rfl) (fun _ _ _ h => h) (Or.inl ⟨by rfl, ?_⟩) (by assumption) ?_
                    rotate_left 1
                    · intro w _; go_simp; try with_reducible rfl
                    try simp only [Act.put, List.getElem_toArray, List.getElem_cons_zero, List.getElem_cons_succ, List.setIfInBounds_toArray, List.set_cons_zero, List.set_cons_succ]
                    refine wpAnyH_take (i := 38) (v := undef) rfl (by kernel_rfl) (by kernel_rfl) (by kernel_rfl) (fun _ _ _ h => h) (Or.inr ⟨by rfl, rfl⟩) (by assumption) ?_
                    try simp only [Act.put, List.getElem_toArray, List.getElem_cons_zero, List.getElem_cons_succ, List.setIfInBounds_toArray, List.set_cons_zero, List.set_cons_succ]
                    refine wpAnyH_take (i := 39) (v := undef) rfl (by kernel_rfl) (by kernel_rfl) (by kernel_rfl) (fun _ _ _ h => h) (Or.inr ⟨by rfl, rfl⟩) (by assumption) ?_
                    try simp only [Act.put, List.getElem_toArray, List.getElem_cons_zero, List.getElem_cons_succ, List.setIfInBounds_toArray, List.set_cons_zero, List.set_cons_succ]
                    refine wpAnyH_take (i := 40) (v := undef) rfl (by kernel_rfl) (by kernel_rfl) (by kernel_rfl) (fun _ _ _ h => h) (Or.inr ⟨by rfl, rfl⟩) (by assumption) ?_
                    try simp only [Act.put, List.getElem_toArray, List.getElem_cons_zero, List.getElem_cons_succ, List.setIfInBounds_toArray, List.set_cons_zero, List.set_cons_succ]
                    refine wpAnyH_take (i := 41) (v := undef) rfl (by kernel_rfl) (by kernel_rfl) (by kernel_rfl) (fun _ _ _ h => h) (Or.inr ⟨by rfl, rfl⟩) (by assumption) ?_
                    try simp only [Act.put, List.getElem_toArray, List.getElem_cons_zero, List.getElem_cons_succ, List.setIfInBounds_toArray, List.set_cons_zero, List.set_cons_succ]
                    refine wpAnyH_take (i := 42) (v := undef) rfl (by kernel_rfl) (by kernel_rfl) (by kernel_rfl) (fun _ _ _ h => h) (Or.inr ⟨by rfl, rfl⟩) (by assumption) ?_
                    try simp only [Act.put, List.getElem_toArray, List.getElem_cons_zero, List.getElem_cons_succ, List.setIfInBounds_toArray, List.set_cons_zero, List.set_cons_succ]
                    refine wpAnyH_take (i := 43) (v := undef) rfl (by kernel_rfl) (by kernel_rfl) (by kernel_rfl) (fun _ _ _ h => h) (Or.inr ⟨by rfl, rfl⟩) (by assumption) ?_
                    try simp only [Act.put, List.getElem_toArray, List.getElem_cons_zero, List.getElem_cons_succ, List.setIfInBounds_toArray, List.set_cons_zero, List.set_cons_succ]
                    refine wpAnyH_take (i := 44) (v := undef) rfl (by kernel_rfl) (by kernel_rfl) (by kernel_rfl) (fun _ _ _ h => h) (Or.inr ⟨by rfl, rfl⟩) (by assumption) ?_
                    try simp only [Act.put, List.getElem_toArray, List.getElem_cons_zero, List.getElem_cons_succ, List.setIfInBounds_toArray, List.set_cons_zero, List.set_cons_succ]
                    refine wpAnyH_take (i := 45) (v := undef) rfl (by kernel_rfl) (by kernel_rfl) (by kernel_rfl) (fun _ _ _ h => h) (Or.inr ⟨by rfl, rfl⟩) (by assumption) ?_
                    try simp only [Act.put, List.getElem_toArray, List.getElem_cons_zero, List.getElem_cons_succ, List.setIfInBounds_toArray, List.set_cons_zero, List.set_cons_succ]
                    refine wpAnyH_take (i := 46) (v := undef) rfl (by kernel_rfl) (by kernel_rfl) (by kernel_rfl) (fun _ _ _ h => h) (Or.inr ⟨by rfl, rfl⟩) (by assumption) ?_
                    try simp only [Act.put, List.getElem_toArray, List.getElem_cons_zero, List.getElem_cons_succ, List.setIfInBounds_toArray, List.set_cons_zero, List.set_cons_succ]
                    refine wpAnyH_take (i := 47) (v := undef) rfl (by kernel_rfl) (by kernel_rfl) (by kernel_rfl) (fun _ _ _ h => h) (Or.inr ⟨by rfl, rfl⟩) (by assumption) ?_
                    try simp only [Act.put, List.getElem_toArray, List.getElem_cons_zero, List.getElem_cons_succ, List.setIfInBounds_toArray, List.set_cons_zero, List.set_cons_succ]
                    refine wpAnyH_take (i := 48) (v := ?_) rfl (by kernel_rfl) (by kernel_rfl) (by kernel_rfl) (fun _ _ _ h => h) (Or.inl ⟨by rfl, ?_⟩) (by assumption) ?_
                    rotate_left 1
                    · intro w _; go_simp; try with_reducible rfl
                    try simp only [Act.put, List.getElem_toArray, List.getElem_cons_zero, List.getElem_cons_succ, List.setIfInBounds_toArray, List.set_cons_zero, List.set_cons_succ]
                    refine wpAnyH_take (i := 49) (v := ?_) rfl (by kernel_rfl) (by kernel_rfl) (by kernel_rfl) (fun _ _ _ h => h) (Or.inl ⟨by rfl, ?_⟩) (by assumption) ?_
                    rotate_left 1
                    · intro w _; go_simp; try with_reducible rfl
                    try simp only [Act.put, List.getElem_toArray, List.getElem_cons_zero, List.getElem_cons_succ, List.setIfInBounds_toArray, List.set_cons_zero, List.set_cons_succ]
                    refine wpAnyH_done (by kernel_rfl) ?_ _
                    clear hHeld
                    go_wp2_with fail
                    go_roundw
                    case rel => exact ⟨i + 1, by omega, by go_num, Lib.hid (show A40 (wq.setCell ⟨NB, t, none⟩ (.bool true)) NB 43 (se40 L (i + 1)) from HA2.out), Lib.hid (below_draws HB2.out 1), hs2⟩
                    case measure => simp [intOf]; omega
                  · as_aux_lemma =>
                    obtain ⟨j, hj⟩ : ∃ j, j + 1 = i := ⟨i - 1, by omega⟩
                    obtain ⟨u, hu⟩ : ∃ u, L[j]? = some u := ⟨_, List.getElem?_eq_getElem (by rw [HLN.out]; omega)⟩
                    have hut := lt_prev11 (by rw [← HLL.out]; exact lk11_lt d k) hu (by rw [hj]; exact ht)
                    obtain ⟨ad8', hA8', y1⟩ := SI.out.2.1.at_ (ns11_at hu)
                    obtain rfl := Option.some.inj hA8'
                    have q5 : decide (0 < i) = true := by simp; omega
                    have q5' : decide ((0 : Int) < i) = true := by simp; omega
                    have q6 : decide (t ≤ u) = false := by simp; omega
                    have q6' : decide ((t : Int) ≤ u) = false := by simp; omega
                    have e5 : (i : Int) - 1 = (j : Int) := by omega
                    have hj2 : j < ln := by omega
                    have ej : IntKind.i64.wrap (j : Int) = j := by simp [IntKind.wrap, IntKind.bits, IntKind.signed]; omega
                    clear ht hP hR hia hi0 SI hu hj hA8'
                    go_wp2_with fail
                    refine wp_region_held_drew (S := fun w' => w'.cell? (ad8.add i) = some (.int .i64 (t : Int)) ∧ w'.cell? ⟨IB, t, none⟩ = some (.int .i64 (P : Int)) ∧ w'.cell? ⟨IB, k, none⟩ = some (.int .i64 (R : Int)) ∧ w'.cell? (ad8.add j) = some (.int .i64 (u : Int))) (by kernel_rfl) (⟨y0, c1, c2, y1⟩) (fun hHeld => ?_)
                    refine wpAnyH_take (i := 0) (v := ?_) rfl (by kernel_rfl) (by kernel_rfl) (by kernel_rfl) (fun _ _ _ h => h) (Or.inl ⟨by rfl, ?_⟩) (by assumption) ?_
                    rotate_left 1
                    · intro w _; go_simp; try with_reducible rfl
                    try simp only [Act.put, List.getElem_toArray, List.getElem_cons_zero, List.getElem_cons_succ, List.setIfInBounds_toArray, List.set_cons_zero, List.set_cons_succ]
                    refine wpAnyH_take (i := 1) (v := ?_) rfl (by kernel_rfl) (by kernel_rfl) (by kernel_rfl) (fun _ _ _ h => h) (Or.inl ⟨by rfl, ?_⟩) (by assumption) ?_
                    rotate_left 1
                    · intro w _; go_simp; try with_reducible rfl
                    try simp only [Act.put, List.getElem_toArray, List.getElem_cons_zero, List.getElem_cons_succ, List.setIfInBounds_toArray, List.set_cons_zero, List.set_cons_succ]
                    refine wpAnyH_take (i := 2) (v := ?_) rfl (by kernel_rfl) (by kernel_rfl) (by kernel_rfl) (fun _ _ _ h => h) (Or.inl ⟨by rfl, ?_⟩) (by assumption) ?_
                    rotate_left 1
                    · intro w _; go_simp; try with_reducible rfl
                    try simp only [Act.put, List.getElem_toArray, List.getElem_cons_zero, List.getElem_cons_succ, List.setIfInBounds_toArray, List.set_cons_zero, List.set_cons_succ]
                    refine wpAnyH_take (i := 3) (v := ?_) rfl (by kernel_rfl) (by kernel_rfl) (by kernel_rfl) (fun _ _ _ h => h) (Or.inl ⟨by rfl, ?_⟩) (by assumption) ?_
                    rotate_left 1
                    · intro w hSw; (try dsimp only at hSw); obtain ⟨s0, s1, s2, s3⟩ := hSw; go_simp; try with_reducible rfl
                    try simp only [Act.put, List.getElem_toArray, List.getElem_cons_zero, List.getElem_cons_succ, List.setIfInBounds_toArray, List.set_cons_zero, List.set_cons_succ]
                    refine wpAnyH_take (i := 4) (v := ?_) rfl (by kernel_rfl) (by kernel_rfl) (by kernel_rfl) (fun _ _ _ h => h) (Or.inl ⟨by rfl, ?_⟩) (by assumption) ?_
                    rotate_left 1
                    · intro w _; go_simp; try with_reducible rfl
                    try simp only [Act.put, List.getElem_toArray, List.getElem_cons_zero, List.getElem_cons_succ, List.setIfInBounds_toArray, List.set_cons_zero, List.set_cons_succ]
                    refine wpAnyH_take (i := 5) (v := ?_) rfl (by kernel_rfl) (by kernel_rfl) (by kernel_rfl) (fun _ _ _ h => h) (Or.inl ⟨by rfl, ?_⟩) (by assumption) ?_
                    rotate_left 1
                    · intro w _; go_simp; try with_reducible rfl
                    try simp only [Act.put, List.getElem_toArray, List.getElem_cons_zero, List.getElem_cons_succ, List.setIfInBounds_toArray, List.set_cons_zero, List.set_cons_succ]
                    refine wpAnyH_take (i := 6) (v := ?_) rfl (by kernel_rfl) (by kernel_rfl) (by kernel_rfl) (fun _ _ _ h => h) (Or.inl ⟨by rfl, ?_⟩) (by assumption) ?_
                    rotate_left 1
                    · intro w _; go_simp; try with_reducible rfl
                    try simp only [Act.put, List.getElem_toArray, List.getElem_cons_zero, List.getElem_cons_succ, List.setIfInBounds_toArray, List.set_cons_zero, List.set_cons_succ]
                    refine wpAnyH_take (i := 7) (v := ?_) rfl (by kernel_rfl) (by kernel_rfl) (by kernel_rfl) (fun _ _ _ h => h) (Or.inl ⟨by rfl, ?_⟩) (by assumption) ?_
                    rotate_left 1
                    · intro w _; go_simp; try with_reducible rfl
                    try simp only [Act.put, List.getElem_toArray, List.getElem_cons_zero, List.getElem_cons_succ, List.setIfInBounds_toArray, List.set_cons_zero, List.set_cons_succ]
                    refine wpAnyH_take (i := 8) (v := ?_) rfl (by kernel_rfl) (by kernel_rfl) (by kernel_rfl) (fun _ _ _ h => h) (Or.inl ⟨by rfl, ?_⟩) (by assumption) ?_
                    rotate_left 1
                    · intro w _; go_simp; try with_reducible rfl
                    try simp only [Act.put, List.getElem_toArray, List.getElem_cons_zero, List.getElem_cons_succ, List.setIfInBounds_toArray, List.set_cons_zero, List.set_cons_succ]
                    refine wpAnyH_take (i := 9) (v := ?_) rfl (by kernel_rfl) (by kernel_rfl) (by kernel_rfl) (fun _ _ _ h => h) (Or.inl ⟨by rfl, ?_⟩) (by assumption) ?_
                    rotate_left 1
                    · intro w hSw; (try dsimp only at hSw); obtain ⟨s0, s1, s2, s3⟩ := hSw; go_simp; try with_reducible rfl
                    try simp only [Act.put, List.getElem_toArray, List.getElem_cons_zero, List.getElem_cons_succ, List.setIfInBounds_toArray, List.set_cons_zero, List.set_cons_succ]
                    refine wpAnyH_take (i := 10) (v := ?_) rfl (by kernel_rfl) (by kernel_rfl) (by kernel_rfl) (fun _ _ _ h => h) (Or.inl ⟨by rfl, ?_⟩) (by assumption) ?_
                    rotate_left 1
                    · intro w _; go_simp; try with_reducible rfl
                    try simp only [Act.put, List.getElem_toArray, List.getElem_cons_zero, List.getElem_cons_succ, List.setIfInBounds_toArray, List.set_cons_zero, List.set_cons_succ]
                    refine wpAnyH_take (i := 11) (v := ?_) rfl (by kernel_rfl) (by kernel_rfl) (by kernel_rfl) (fun _ _ _ h => h) (Or.inl ⟨by rfl, ?_⟩) (by assumption) ?_
                    rotate_left 1
                    · intro w _; go_simp; try with_reducible rfl
                    try simp only [Act.put, List.getElem_toArray, List.getElem_cons_zero, List.getElem_cons_succ, List.setIfInBounds_toArray, List.set_cons_zero, List.set_cons_succ]
                    refine wpAnyH_take (i := 12) (v := ?_) rfl (by kernel_rfl) (by kernel_rfl) (by kernel_rfl) (fun _ _ _ h => h) (Or.inl ⟨by rfl, ?_⟩) (by assumption) ?_
                    rotate_left 1
                    · intro w _; go_simp; try with_reducible rfl
                    try simp only [Act.put, List.getElem_toArray, List.getElem_cons_zero, List.getElem_cons_succ, List.setIfInBounds_toArray, List.set_cons_zero, List.set_cons_succ]
                    refine wpAnyH_take (i := 13) (v := ?_) rfl (by kernel_rfl) (by kernel_rfl) (by kernel_rfl) (fun _ _ _ h => h) (Or.inl ⟨by rfl, ?_⟩) (by assumption) ?_
                    rotate_left 1
                    · intro w _; go_simp; try with_reducible rfl
                    try simp only [Act.put, List.getElem_toArray, List.getElem_cons_zero, List.getElem_cons_succ, List.setIfInBounds_toArray, List.set_cons_zero, List.set_cons_succ]
                    refine wpAnyH_take (i := 14) (v := ?_) rfl (by kernel_rfl) (by kernel_rfl) (by kernel_rfl) (fun _ _ _ h => h) (Or.inl ⟨by rfl, ?_⟩) (by assumption) ?_
                    rotate_left 1
                    · intro w _; go_simp; try with_reducible rfl
                    try simp only [Act.put, List.getElem_toArray, List.getElem_cons_zero, List.getElem_cons_succ, List.setIfInBounds_toArray, List.set_cons_zero, List.set_cons_succ]
                    refine wpAnyH_take (i := 15) (v := ?_) rfl (by kernel_rfl) (by kernel_rfl) (by kernel_rfl) (fun _ _ _ h => h) (Or.inl ⟨by rfl, ?_⟩) (by assumption) ?_
                    rotate_left 1
                    · intro w _; go_simp; try with_reducible rfl
                    try simp only [Act.put, List.getElem_toArray, List.getElem_cons_zero, List.getElem_cons_succ, List.setIfInBounds_toArray, List.set_cons_zero, List.set_cons_succ]
                    refine wpAnyH_take (i := 16) (v := ?_) rfl (by kernel_rfl) (by kernel_rfl) (by kernel_rfl) (fun _ _ _ h => h) (Or.inl ⟨by rfl, ?_⟩) (by assumption) ?_
                    rotate_left 1
                    · intro w _; go_simp; try with_reducible rfl
                    try simp only [Act.put, List.getElem_toArray, List.getElem_cons_zero, List.getElem_cons_succ, List.setIfInBounds_toArray, List.set_cons_zero, List.set_cons_succ]
                    refine wpAnyH_take (i := 17) (v := ?_) rfl (by kernel_rfl) (by kernel_rfl) (by kernel_rfl) (fun _ _ _ h => h) (Or.inl ⟨by rfl, ?_⟩) (by assumption) ?_
                    rotate_left 1
                    · intro w _; go_simp; try with_reducible rfl
                    try simp only [Act.put, List.getElem_toArray, List.getElem_cons_zero, List.getElem_cons_succ, List.setIfInBounds_toArray, List.set_cons_zero, List.set_cons_succ]
                    refine wpAnyH_take (i := 18) (v := ?_) rfl (by kernel_rfl) (by kernel_rfl) (by kernel_rfl) (fun _ _ _ h => h) (Or.inl ⟨by rfl, ?_⟩) (by assumption) ?_
                    rotate_left 1
                    · intro w hSw; (try dsimp only at hSw); obtain ⟨s0, s1, s2, s3⟩ := hSw; go_simp; try with_reducible rfl
                    try simp only [Act.put, List.getElem_toArray, List.getElem_cons_zero, List.getElem_cons_succ, List.setIfInBounds_toArray, List.set_cons_zero, List.set_cons_succ]
                    refine wpAnyH_take (i := 19) (v := ?_) rfl (by kernel_rfl) (by kernel_rfl) (by kernel_rfl) (fun _ _ _ h => h) (Or.inl ⟨by rfl, ?_⟩) (by assumption) ?_
                    rotate_left 1
                    · intro w _; go_simp; try with_reducible rfl
                    try simp only [Act.put, List.getElem_toArray, List.getElem_cons_zero, List.getElem_cons_succ, List.setIfInBounds_toArray, List.set_cons_zero, List.set_cons_succ]
                    refine wpAnyH_take (i := 20) (v := ?_) rfl (by kernel_rfl) (by kernel_rfl) (by kernel_rfl) (fun _ _ _ h => h) (Or.inl ⟨by rfl, ?_⟩) (by assumption) ?_
                    rotate_left 1
                    · intro w _; go_simp; try with_reducible rfl
                    try simp only [Act.put, List.getElem_toArray, List.getElem_cons_zero, List.getElem_cons_succ, List.setIfInBounds_toArray, List.set_cons_zero, List.set_cons_succ]
                    refine wpAnyH_take (i := 21) (v := ?_) rfl (by kernel_rfl) (by kernel_rfl) (by kernel_rfl) (fun _ _ _ h => h) (Or.inl ⟨by rfl, ?_⟩) (by assumption) ?_
                    rotate_left 1
                    · intro w _; go_simp; try with_reducible rfl
                    try simp only [Act.put, List.getElem_toArray, List.getElem_cons_zero, List.getElem_cons_succ, List.setIfInBounds_toArray, List.set_cons_zero, List.set_cons_succ]
                    refine wpAnyH_take (i := 22) (v := ?_) rfl (by kernel_rfl) (by kernel_rfl) (by kernel_rfl) (fun _ _ _ h => h) (Or.inl ⟨by rfl, ?_⟩) (by assumption) ?_
                    rotate_left 1
                    · intro w _; go_simp; try with_reducible rfl
                    try simp only [Act.put, List.getElem_toArray, List.getElem_cons_zero, List.getElem_cons_succ, List.setIfInBounds_toArray, List.set_cons_zero, List.set_cons_succ]
                    refine wpAnyH_take (i := 23) (v := ?_) rfl (by kernel_rfl) (by kernel_rfl) (by kernel_rfl) (fun _ _ _ h => h) (Or.inl ⟨by rfl, ?_⟩) (by assumption) ?_
                    rotate_left 1
                    · intro w _; go_simp; try with_reducible rfl
                    try simp only [Act.put, List.getElem_toArray, List.getElem_cons_zero, List.getElem_cons_succ, List.setIfInBounds_toArray, List.set_cons_zero, List.set_cons_succ]
                    refine wpAnyH_take (i := 24) (v := ?_) rfl (by kernel_rfl) (by kernel_rfl) (by kernel_rfl) (fun _ _ _ h => h) (Or.inl ⟨by rfl, ?_⟩) (by assumption) ?_
                    rotate_left 1
                    · intro w _; go_simp; try with_reducible rfl
                    try simp only [Act.put, List.getElem_toArray, List.getElem_cons_zero, List.getElem_cons_succ, List.setIfInBounds_toArray, List.set_cons_zero, List.set_cons_succ]
                    refine wpAnyH_take (i := 25) (v := ?_) rfl (by kernel_rfl) (by kernel_rfl) (by kernel_rfl) (fun _ _ _ h => h) (Or.inl ⟨by rfl, ?_⟩) (by assumption) ?_
                    rotate_left 1
                    · intro w _; go_simp; try with_reducible rfl
                    try simp only [Act.put, List.getElem_toArray, List.getElem_cons_zero, List.getElem_cons_succ, List.setIfInBounds_toArray, List.set_cons_zero, List.set_cons_succ]
                    refine wpAnyH_take (i := 26) (v := ?_) rfl (by kernel_rfl) (by kernel_rfl) (by kernel_rfl) (fun _ _ _ h => h) (Or.inl ⟨by rfl, ?_⟩) (by assumption) ?_
                    rotate_left 1
                    · intro w hSw; (try dsimp only at hSw); obtain ⟨s0, s1, s2, s3⟩ := hSw; go_simp; try with_reducible rfl
                    try simp only [Act.put, List.getElem_toArray, List.getElem_cons_zero, List.getElem_cons_succ, List.setIfInBounds_toArray, List.set_cons_zero, List.set_cons_succ]
                    refine wpAnyH_take (i := 27) (v := ?_) rfl (by kernel_rfl) (by kernel_rfl) (by kernel_rfl) (fun _ _ _ h => h) (Or.inl ⟨by rfl, ?_⟩) (by assumption) ?_
                    rotate_left 1
                    · intro w _; go_simp; try with_reducible rfl
                    try simp only [Act.put, List.getElem_toArray, List.getElem_cons_zero, List.getElem_cons_succ, List.setIfInBounds_toArray, List.set_cons_zero, List.set_cons_succ]
                    refine wpAnyH_take (i := 28) (v := ?_) rfl (by kernel_rfl) (by kernel_rfl) (by kernel_rfl) (fun _ _ _ h => h) (Or.inl ⟨by rfl, ?_⟩) (by assumption) ?_
                    rotate_left 1
                    · intro w hSw; (try dsimp only at hSw); obtain ⟨s0, s1, s2, s3⟩ := hSw; go_simp; try with_reducible rfl
                    try simp only [Act.put, List.getElem_toArray, List.getElem_cons_zero, List.getElem_cons_succ, List.setIfInBounds_toArray, List.set_cons_zero, List.set_cons_succ]
                    refine wpAnyH_take (i := 29) (v := ?_) rfl (by kernel_rfl) (by kernel_rfl) (by kernel_rfl) (fun _ _ _ h => h) (Or.inl ⟨by rfl, ?_⟩) (by assumption) ?_
                    rotate_left 1
                    · intro w _; go_simp; try with_reducible rfl
                    try simp only [Act.put, List.getElem_toArray, List.getElem_cons_zero, List.getElem_cons_succ, List.setIfInBounds_toArray, List.set_cons_zero, List.set_cons_succ]
                    refine wpAnyH_take (i := 30) (v := ?_) rfl (by kernel_rfl) (by kernel_rfl) (by kernel_rfl) (fun _ _ _ h => h) (Or.inl ⟨by rfl, ?_⟩) (by assumption) ?_
                    rotate_left 1
                    · intro w _; go_simp; try with_reducible rfl
                    try simp only [Act.put, List.getElem_toArray, List.getElem_cons_zero, List.getElem_cons_succ, List.setIfInBounds_toArray, List.set_cons_zero, List.set_cons_succ]
                    refine wpAnyH_take (i := 31) (v := ?_) rfl (by kernel_rfl) (by kernel_rfl) (by kernel_rfl) (fun _ _ _ h => h) (Or.inl ⟨by rfl, ?_⟩) (by assumption) ?_
                    rotate_left 1
                    · intro w hSw; (try dsimp only at hSw); obtain ⟨s0, s1, s2, s3⟩ := hSw; go_simp; try with_reducible rfl
                    try simp only [Act.put, List.getElem_toArray, List.getElem_cons_zero, List.getElem_cons_succ, List.setIfInBounds_toArray, List.set_cons_zero, List.set_cons_succ]
                    refine wpAnyH_take (i := 32) (v := ?_) rfl (by kernel_rfl) (by kernel_rfl) (by kernel_rfl) (fun _ _ _ h => h) (Or.inl ⟨by rfl, ?_⟩) (by assumption) ?_
                    rotate_left 1
                    · intro w _; go_simp; try with_reducible rfl
                    try simp only [Act.put, List.getElem_toArray, List.getElem_cons_zero, List.getElem_cons_succ, List.setIfInBounds_toArray, List.set_cons_zero, List.set_cons_succ]
                    refine wpAnyH_take (i := 33) (v := ?_) rfl (by kernel_rfl) (by kernel_rfl) (by kernel_rfl) (fun _ _ _ h => h) (Or.inl ⟨by rfl, ?_⟩) (by assumption) ?_
                    rotate_left 1
                    · intro w _; go_simp; try with_reducible rfl
                    try simp only [Act.put, List.getElem_toArray, List.getElem_cons_zero, List.getElem_cons_succ, List.setIfInBounds_toArray, List.set_cons_zero, List.set_cons_succ]
                    refine wpAnyH_take (i := 34) (v := ?_) rfl (by kernel_rfl) (by kernel_rfl) (by kernel_rfl) (fun _ _ _ h => h) (Or.inl ⟨by rfl, ?_⟩) (by assumption) ?_
                    rotate_left 1
                    · intro w _; go_simp; try with_reducible rfl
                    try simp only [Act.put, List.getElem_toArray, List.getElem_cons_zero, List.getElem_cons_succ, List.setIfInBounds_toArray, List.set_cons_zero, List.set_cons_succ]
                    refine wpAnyH_take (i := 35) (v := ?_) rfl (by kernel_rfl) (by kernel_rfl) (by kernel_rfl) (fun _ _ _ h => h) (Or.inl ⟨by rfl, ?_⟩) (by assumption) ?_
                    rotate_left 1
                    · intro w _; go_simp; try with_reducible rfl
                    try simp only [Act.put, List.getElem_toArray, List.getElem_cons_zero, List.getElem_cons_succ, List.setIfInBounds_toArray, List.set_cons_zero, List.set_cons_succ]
                    refine wpAnyH_take (i := 36) (v := ?_) rfl (by kernel_rfl) (by kernel_rfl) (by kernel_rfl) (fun _ _ _ h => h) (Or.inl ⟨by rfl, ?_⟩) (by assumption) ?_
                    rotate_left 1
                    · intro w _; go_simp; try with_reducible rfl
                    try simp only [Act.put, List.getElem_toArray, List.getElem_cons_zero, List.getElem_cons_succ, List.setIfInBounds_toArray, List.set_cons_zero, List.set_cons_succ]
                    refine wpAnyH_take (i := 37) (v := ?_) rfl (by kernel_rfl) (by kernel_rfl) (by kernel_rfl) (fun _ _ _ h => h) (Or.inl ⟨by rfl, ?_⟩) (by assumption) ?_
                    rotate_left 1
                    · intro w _; go_simp; try with_reducible rfl
                    try simp only [Act.put, List.getElem_toArray, List.getElem_cons_zero, List.getElem_cons_succ, List.setIfInBounds_toArray, List.set_cons_zero, List.set_cons_succ]
                    refine wpAnyH_take (i := 38) (v := ?_) rfl (by kernel_rfl) (by kernel_rfl) (by kernel_rfl) (fun _ _ _ h => h) (Or.inl ⟨by rfl, ?_⟩) (by assumption) ?_
                    rotate_left 1
                    · intro w _; go_simp; try with_reducible rfl
                    try simp only [Act.put, List.getElem_toArray, List.getElem_cons_zero, List.getElem_cons_succ, List.setIfInBounds_toArray, List.set_cons_zero, List.set_cons_succ]
                    refine wpAnyH_take (i := 39) (v := ?_) rfl (by kernel_rfl) (by kernel_rfl) (by kernel_rfl) (fun _ _ _ h => h) (Or.inl ⟨by rfl, ?_⟩) (by assumption) ?_
                    rotate_left 1
                    · intro w _; go_simp; try with_reducible rfl
                    try simp only [Act.put, List.getElem_toArray, List.getElem_cons_zero, List.getElem_cons_succ, List.setIfInBounds_toArray, List.set_cons_zero, List.set_cons_succ]
                    refine wpAnyH_take (i := 40) (v := ?_) rfl (by kernel_rfl) (by kernel_rfl) (by kernel_rfl) (fun _ _ _ h => h) (Or.inl ⟨by rfl, ?_⟩) (by assumption) ?_
                    rotate_left 1
                    · intro w _; go_simp; try with_reducible rfl
                    try simp only [Act.put, List.getElem_toArray, List.getElem_cons_zero, List.getElem_cons_succ, List.setIfInBounds_toArray, List.set_cons_zero, List.set_cons_succ]
                    refine wpAnyH_take (i := 41) (v := ?_) rfl (by kernel_rfl) (by kernel_rfl) (by kernel_rfl) (fun _ _ _ h => h) (Or.inl ⟨by rfl, ?_⟩) (by assumption) ?_
                    rotate_left 1
                    · intro w hSw; (try dsimp only at hSw); obtain ⟨s0, s1, s2, s3⟩ := hSw; go_simp; try with_reducible rfl
                    try simp only [Act.put, List.getElem_toArray, List.getElem_cons_zero, List.getElem_cons_succ, List.setIfInBounds_toArray, List.set_cons_zero, List.set_cons_succ]
                    refine wpAnyH_take (i := 42) (v := ?_) rfl (by kernel_rfl) (by kernel_rfl) (by kernel_rfl) (fun _ _ _ h => h) (Or.inl ⟨by rfl, ?_⟩) (by assumption) ?_
                    rotate_left 1
                    · intro w _; go_simp; try with_reducible rfl
                    try simp only [Act.put, List.getElem_toArray, List.getElem_cons_zero, List.getElem_cons_succ, List.setIfInBounds_toArray, List.set_cons_zero, List.set_cons_succ]
                    refine wpAnyH_take (i := 43) (v := ?_) rfl (by kernel_rfl) (by kernel_rfl) (by kernel_rfl) (fun _ _ _ h => h) (Or.inl ⟨by rfl, ?_⟩) (by assumption) ?_
                    rotate_left 1
                    · intro w _; go_simp; try with_reducible rfl
                    try simp only [Act.put, List.getElem_toArray, List.getElem_cons_zero, List.getElem_cons_succ, List.setIfInBounds_toArray, List.set_cons_zero, List.set_cons_succ]
                    refine wpAnyH_take (i := 44) (v := ?_) rfl (by kernel_rfl) (by kernel_rfl) (by kernel_rfl) (fun _ _ _ h => h) (Or.inl ⟨by rfl, ?_⟩) (by assumption) ?_
                    rotate_left 1
                    · intro w _; go_simp; try with_reducible rfl
                    try simp only [Act.put, List.getElem_toArray, List.getElem_cons_zero, List.getElem_cons_succ, List.setIfInBounds_toArray, List.set_cons_zero, List.set_cons_succ]
                    refine wpAnyH_take (i := 45) (v := ?_) rfl (by kernel_rfl) (by kernel_rfl) (by kernel_rfl) (fun _ _ _ h => h) (Or.inl ⟨by rfl, ?_⟩) (by assumption) ?_
                    rotate_left 1
                    · intro w _; go_simp; try with_reducible rfl
                    try simp only [Act.put, List.getElem_toArray, List.getElem_cons_zero, List.getElem_cons_succ, List.setIfInBounds_toArray, List.set_cons_zero, List.set_cons_succ]
                    refine wpAnyH_take (i := 46) (v := ?_) rfl (by kernel_rfl) (by kernel_rfl) (by kernel_rfl) (fun _ _ _ h => h) (Or.inl ⟨by rfl, ?_⟩) (by assumption) ?_
                    rotate_left 1
                    · intro w hSw; (try dsimp only at hSw); obtain ⟨s0, s1, s2, s3⟩ := hSw; go_simp; try with_reducible rfl
                    try simp only [Act.put, List.getElem_toArray, List.getElem_cons_zero, List.getElem_cons_succ, List.setIfInBounds_toArray, List.set_cons_zero, List.set_cons_succ]
                    refine wpAnyH_take (i := 47) (v := ?_) rfl (by kernel_rfl) (by kernel_rfl) (by kernel_rfl) (fun _ _ _ h => h) (Or.inl ⟨by rfl, ?_⟩) (by assumption) ?_
                    rotate_left 1
                    · intro w _; go_simp; try with_reducible rfl
                    try simp only [Act.put, List.getElem_toArray, List.getElem_cons_zero, List.getElem_cons_succ, List.setIfInBounds_toArray, List.set_cons_zero, List.set_cons_succ]
                    refine wpAnyH_take (i := 48) (v := ?_) rfl (by kernel_rfl) (by kernel_rfl) (by kernel_rfl) (fun _ _ _ h => h) (Or.inl ⟨by rfl, ?_⟩) (by assumption) ?_
                    rotate_left 1
                    · intro w _; go_simp; try with_reducible rfl
                    try simp only [Act.put, List.getElem_toArray, List.getElem_cons_zero, List.getElem_cons_succ, List.setIfInBounds_toArray, List.set_cons_zero, List.set_cons_succ]
                    refine wpAnyH_take (i := 49) (v := ?_) rfl (by kernel_rfl) (by kernel_rfl) (by kernel_rfl) (fun _ _ _ h => h) (Or.inl ⟨by rfl, ?_⟩) (by assumption) ?_
                    rotate_left 1
                    · intro w _; go_simp; try with_reducible rfl
                    try simp only [Act.put, List.getElem_toArray, List.getElem_cons_zero, List.getElem_cons_succ, List.setIfInBounds_toArray, List.set_cons_zero, List.set_cons_succ]
                    refine wpAnyH_done (by kernel_rfl) ?_ _
                    clear hHeld
                    go_wp2_with fail
                    go_roundw
                    case rel => exact ⟨i + 1, by omega, by go_num, Lib.hid (show A40 (wq.setCell ⟨NB, t, none⟩ (.bool true)) NB 43 (se40 L (i + 1)) from HA2.out), Lib.hid (below_draws HB2.out 1), hs2⟩
                    case measure => simp [intOf]; omega
                · obtain rfl : ln = i := by omega
                  have S9 : Hid (Sx w wq [fA40 NB 43 (se40 L ln), fRn A8 c8 (ns11 L), fA40 IB 42 (pl40 o d.s.length), fRn A4 c4 (ns11 o), fD B y d, fQm y d]) := Lib.hid (SI.out.add (fA40 NB 43 (se40 L ln)) HA.out)
                  clear SI HA HB hs S8
                  have HWH := Lib.hid (whom11_v y d k wq S9.out.2.2.2.2.2.2.1 (by omega) HBL.out)
                  obtain ⟨W, hW⟩ : ∃ W, ck11 d k = W := ⟨_, rfl⟩
                  have HW := Lib.hid hW
                  rw [wh11_ck HRO.out h1, hW] at HWH
                  obtain ⟨kn, hkn⟩ : ∃ kn, (ns11 W).length = kn := ⟨_, rfl⟩
                  have HKN := Lib.hid hkn
                  have hkn9 : kn ≤ 40 := by have := ck11_len d k; rw [hW] at this; rw [← hkn, ns11, List.length_map]; omega
                  obtain ⟨-, -, -, -, -, ⟨d0, d1, d2, d3, d4⟩, -⟩ := S9.out
                  clear hW hkn
                  go_wp2_with fail
                  refine HWH.out.mono ?_
                  rintro r w10 ⟨A10, c10, rfl, ho, hb⟩
                  have S10 := Lib.hid ((S9.out.call hb).add (fRn A10 c10 (ns11 W)) (Rn.of_own ho).1)
                  dsimp only
                  rw [HKN.out]
                  clear HWH hb ho S9 d0 d1 d2 d3 d4
                  go_wp2_with fail
                  go_loopw [18] (fun iv wv => ∃ i : Nat, i ≤ kn ∧ iv = .int .i64 i ∧ Hid (Sx w wv [fRn A10 c10 (ns11 W), fA40 NB 43 (se40 L ln), fRn A8 c8 (ns11 L), fA40 IB 42 (pl40 o d.s.length), fRn A4 c4 (ns11 o), fD B y d, fQm y d])) (fun iv _ => kn - (intOf iv).toNat)
                  case atStart => exact ⟨0, by omega, rfl, S10⟩
                  case round =>
                    clear S10
                    obtain ⟨i, hi2, rfl, SV⟩ := hrel
                    rename World => wv
                    by_cases h3 : i < kn
                    · as_aux_lemma =>
                      obtain ⟨t, ht⟩ : ∃ t, W[i]? = some t := ⟨_, List.getElem?_eq_getElem (by rw [← HKN.out, ns11, List.length_map] at h3; exact h3)⟩
                      obtain ⟨htn, htl, hti⟩ := HOS.out.calls h1 (j := t) (by rw [HW.out]; exact List.mem_of_getElem? ht)
                      have HTL : Hid (t ∈ L) := Lib.hid (by rw [← HLL.out]; exact htl)
                      have HTI := Lib.hid hti
                      obtain ⟨ad10, hA10, y0⟩ := SV.out.2.1.at_ (ns11_at ht)
                      subst hA10
                      have SV2 := Lib.hid (SV.out.add (fC40 (ad10.add i) (.int .i64 (t : Int))) y0)
                      have HLT := Lib.hid (le11_lk HRO.out htn)
                      obtain ⟨tn, htn2⟩ : ∃ tn, (ns11 (lk11 d t)).length = tn := ⟨_, rfl⟩
                      have HTN := Lib.hid htn2
                      have htn9 : tn ≤ 40 := by have := lk11_len d t; rw [← htn2, ns11, List.length_map]; omega
                      have ht40 : t < 40 := by omega
                      have ht40' : (t : Int) < 40 := by omega
                      clear ht htl hti y0 htn2 SV
                      go_wp2_with fail
                      refine wp_region_held_drew (S := fun w' => Hid (Sx w w' [fC40 (ad10.add i) (.int .i64 (t : Int)), fRn (some ad10) c10 (ns11 W), fA40 NB 43 (se40 L ln), fRn A8 c8 (ns11 L), fA40 IB 42 (pl40 o d.s.length), fRn A4 c4 (ns11 o), fD B y d, fQm y d])) (by kernel_rfl) (Hsx.drew SV2) (fun hHeld => ?_)
                      refine wpAnyH_take (i := 0) (v := ?_) rfl (by kernel_rfl) (by kernel_rfl) (by kernel_rfl) (fun _ _ _ h => h) (Or.inl ⟨by rfl, ?_⟩) (by assumption) ?_
                      rotate_left 1
                      · intro w hSw; (try dsimp only at hSw); obtain ⟨-, s5, -, -, -, -, -, ⟨s0, s1, s2, s3, s4⟩, -⟩ := hSw.out; dsimp only at s5; go_simp; try with_reducible rfl
                      try simp only [Act.put, List.getElem_toArray, List.getElem_cons_zero, List.getElem_cons_succ, List.setIfInBounds_toArray, List.set_cons_zero, List.set_cons_succ]
                      refine wpAnyH_take (i := 1) (v := ?_) rfl (by kernel_rfl) (by kernel_rfl) (by kernel_rfl) (fun _ _ _ h => h) (Or.inl ⟨by rfl, ?_⟩) (by assumption) ?_
                      rotate_left 1
                      · intro w _; go_simp; try with_reducible rfl
                      try simp only [Act.put, List.getElem_toArray, List.getElem_cons_zero, List.getElem_cons_succ, List.setIfInBounds_toArray, List.set_cons_zero, List.set_cons_succ]
                      refine wpAnyH_take (i := 2) (v := ?_) rfl (by kernel_rfl) (by kernel_rfl) (by kernel_rfl) (fun _ _ _ h => h) (Or.inl ⟨by rfl, ?_⟩) (by assumption) ?_
                      rotate_left 1
                      · intro w _; go_simp; try with_reducible rfl
                      try simp only [Act.put, List.getElem_toArray, List.getElem_cons_zero, List.getElem_cons_succ, List.setIfInBounds_toArray, List.set_cons_zero, List.set_cons_succ]
                      refine wpAnyH_take (i := 3) (v := ?_) rfl (by kernel_rfl) (by kernel_rfl) (by kernel_rfl) (fun _ _ _ h => h) (Or.inl ⟨by rfl, ?_⟩) (by assumption) ?_
                      rotate_left 1
                      · intro w _; go_simp; try with_reducible rfl
                      try simp only [Act.put, List.getElem_toArray, List.getElem_cons_zero, List.getElem_cons_succ, List.setIfInBounds_toArray, List.set_cons_zero, List.set_cons_succ]
                      refine wpAnyH_take (i := 4) (v := ?_) rfl (by kernel_rfl) (by kernel_rfl) (by kernel_rfl) (fun _ _ _ h => h) (Or.inl ⟨by rfl, ?_⟩) (by assumption) ?_
                      rotate_left 1
                      · intro w hSw; (try dsimp only at hSw); obtain ⟨-, s5, -, -, -, -, -, ⟨s0, s1, s2, s3, s4⟩, -⟩ := hSw.out; dsimp only at s5; go_simp; try with_reducible rfl
                      try simp only [Act.put, List.getElem_toArray, List.getElem_cons_zero, List.getElem_cons_succ, List.setIfInBounds_toArray, List.set_cons_zero, List.set_cons_succ]
                      refine wpAnyH_ready (rs := [5]) (by kernel_rfl) (by simp) ?_
                      refine AllReadyH.cons rfl (fun K hK => ?_) AllReadyH.nil
                      go_simp
                      refine (leadsT_v y d t _ hHeld.out.2.2.2.2.2.2.2.2.1 (by omega) HBL.out).mono ?_
                      rw [HLT.out]
                      rintro r w11 ⟨A11, c11, rfl, ho, hb⟩
                      have HR11 := Lib.hid (Rn.of_own ho).1
                      dsimp only
                      rw [HTN.out]
                      clear ho
                      go_wp2_with fail
                      refine hK.out _ _ (Hsx.call hb hHeld) (fun hHeld => ?_)
                      clear hK K
                      try simp only [Act.put, List.getElem_toArray, List.getElem_cons_zero, List.getElem_cons_succ, List.setIfInBounds_toArray, List.set_cons_zero, List.set_cons_succ]
                      refine wpAnyH_take (i := 6) (v := ?_) rfl (by kernel_rfl) (by kernel_rfl) (by kernel_rfl) (fun _ _ _ h => h) (Or.inl ⟨by rfl, ?_⟩) (by assumption) ?_
                      rotate_left 1
                      · intro w _; go_simp; try with_reducible rfl
                      try simp only [Act.put, List.getElem_toArray, List.getElem_cons_zero, List.getElem_cons_succ, List.setIfInBounds_toArray, List.set_cons_zero, List.set_cons_succ]
                      refine wpAnyH_take (i := 7) (v := ?_) rfl (by kernel_rfl) (by kernel_rfl) (by kernel_rfl) (fun _ _ _ h => h) (Or.inl ⟨by rfl, ?_⟩) (by assumption) ?_
                      rotate_left 1
                      · intro w _; go_simp; try with_reducible rfl
                      try simp only [Act.put, List.getElem_toArray, List.getElem_cons_zero, List.getElem_cons_succ, List.setIfInBounds_toArray, List.set_cons_zero, List.set_cons_succ]
                      refine wpAnyH_take (i := 8) (v := ?_) rfl (by kernel_rfl) (by kernel_rfl) (by kernel_rfl) (fun _ _ _ h => h) (Or.inl ⟨by rfl, ?_⟩) (by assumption) ?_
                      rotate_left 1
                      · intro w _; go_simp; try with_reducible rfl
                      try simp only [Act.put, List.getElem_toArray, List.getElem_cons_zero, List.getElem_cons_succ, List.setIfInBounds_toArray, List.set_cons_zero, List.set_cons_succ]
                      refine wpAnyH_take (i := 9) (v := ?_) rfl (by kernel_rfl) (by kernel_rfl) (by kernel_rfl) (fun _ _ _ h => h) (Or.inl ⟨by rfl, ?_⟩) (by assumption) ?_
                      rotate_left 1
                      · intro w _; go_simp; try with_reducible rfl
                      try simp only [Act.put, List.getElem_toArray, List.getElem_cons_zero, List.getElem_cons_succ, List.setIfInBounds_toArray, List.set_cons_zero, List.set_cons_succ]
                      refine wpAnyH_take (i := 10) (v := ?_) rfl (by kernel_rfl) (by kernel_rfl) (by kernel_rfl) (fun _ _ _ h => h) (Or.inl ⟨by rfl, ?_⟩) (by assumption) ?_
                      rotate_left 1
                      · intro w _; go_simp; try with_reducible rfl
                      try simp only [Act.put, List.getElem_toArray, List.getElem_cons_zero, List.getElem_cons_succ, List.setIfInBounds_toArray, List.set_cons_zero, List.set_cons_succ]
                      refine wpAnyH_done (by kernel_rfl) ?_ _
                      have SX := Lib.hid hHeld.out
                      clear hHeld SV2
                      obtain ⟨-, y0, -, hnb, -⟩ := SX.out
                      dsimp only at y0 hnb
                      have c0 := hnb.cell ht40
                      rw [in40_end (Nat.le_of_eq HLN.out) HTL.out] at c0
                      clear hnb
                      have q1 : decide ((t : Int) < 0) = false := by simp
                      have q2 : decide (d.s.length ≤ t) = false := by simp; omega
                      have q2' : decide ((d.s.length : Int) ≤ t) = false := by simp; omega
                      go_wp2_with fail
                      clear y0 c0 q1 q2 q2'
                      go_loopw [21] (fun nv wx => ∃ j : Nat, j ≤ tn ∧ nv = .int .i64 j ∧ w11 = wx) (fun nv _ => tn - (intOf nv).toNat)
                      case atStart => exact ⟨0, by omega, rfl, rfl⟩
                      case round =>
                        obtain ⟨j, hj, rfl, hwx⟩ := hrel
                        subst hwx
                        by_cases h4 : j < tn
                        · as_aux_lemma =>
                          obtain ⟨u, hu⟩ : ∃ u, (lk11 d t)[j]? = some u := ⟨_, List.getElem?_eq_getElem (by rw [← HTN.out, ns11, List.length_map] at h4; exact h4)⟩
                          obtain ⟨hun, hul⟩ := HTI.out u (List.mem_of_getElem? hu)
                          obtain ⟨ad11, hA11, y0⟩ := HR11.out.at_ (ns11_at hu)
                          subst hA11
                          obtain ⟨-, -, -, hnb, -⟩ := SX.out
                          dsimp only at hnb
                          have c0 := hnb.cell (i := u) (by omega)
                          rw [in40_end (Nat.le_of_eq HLN.out) (by rw [HLL.out] at hul; exact hul)] at c0
                          have hu40 : (u : Int) < 40 := by omega
                          clear hnb hu hul
                          go_wp2_with fail
                          go_roundw
                          case rel => exact ⟨j + 1, by omega, by go_num, trivial⟩
                          case measure => simp [intOf]; omega
                        · obtain rfl : tn = j := by omega
                          have SX2 : Hid (Sx w w11 [fRn (some ad10) c10 (ns11 W), fA40 NB 43 (se40 L ln), fRn A8 c8 (ns11 L), fA40 IB 42 (pl40 o d.s.length), fRn A4 c4 (ns11 o), fD B y d, fQm y d]) := Lib.hid ⟨SX.out.1, SX.out.2.2⟩
                          clear SX
                          go_wp2_with fail
                          go_roundw
                          case rel => exact ⟨i + 1, by omega, by go_num, SX2⟩
                          case measure => simp [intOf]; omega
                    · obtain rfl : kn = i := by omega
                      have SE := Lib.hid SV.out
                      have S7E : Hid (Sx w wv [fA40 IB 42 (pl40 o d.s.length), fRn A4 c4 (ns11 o), fD B y d, fQm y d]) := Lib.hid ⟨SV.out.1, SV.out.2.2.2.2⟩
                      clear SV SE
                      go_wp2_with fail
                      go_roundw
                      case rel => exact ⟨k + 1, by omega, by go_num, S7E⟩
                      case measure => simp [intOf]; omega
          · obtain rfl : k = d.s.length := by omega
            have HBE := Lib.hid SK.out.1
            clear SK
            go_wp2_with fail
            go_ret
            exact ⟨rfl, HBE.out⟩
  · have HN := Lib.hid (ro11_no h0)
    obtain ⟨E, hE⟩ : ∃ E, (ro11 d).2 = E := ⟨_, rfl⟩
    rw [hE, HN.out]
    rw [hE] at h0
    have HB4 := Lib.hid S4.out.1
    dsimp only [List.length_nil]
    have q1 : (E != 0) = true := by simpa using h0
    clear hE S4
    go_wp2_with fail
    go_ret
    exact ⟨rfl, HB4.out⟩
end Go.Proofs.Ytfbabbddiplgkaa
