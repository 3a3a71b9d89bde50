/-
  Law HeapBounded of layer 15.
-/
import Derived.Test.YtibiocjdkndnhaaYj
namespace Go.Proofs.Ytibiocjdkndnhaa
open Go.RowKit
set_option maxRecDepth 100000
set_option linter.unusedSimpArgs false
set_option linter.unusedVariables false

theorem is15_last {Z : List (List Int)} {m : Nat} (h : Z.length = m + 1) : is15 Z m = true ∧ is15 Z ((m : Int) + 1) = false := by
  unfold is15
  rw [h]
  refine ⟨?_, ?_⟩
  · rw [decide_eq_true (by omega), decide_eq_true (by omega)]; rfl
  · rw [decide_eq_true (by omega), decide_eq_false (by omega)]; rfl
set_option maxHeartbeats 8000000 in
theorem bounded15_walk (x : Int) (A : Option Addr) (n c : Nat) (L : List Int) (w : World) (hr : Rn15 w A c L) (hn : L.length = n) :
    Calls Try.prog 6 #[.int .i64 x, .slice A n c] w fun e w' => e = .returned (.bool true) ∧ Below w.heap.size w w' := by
  have HN := Lib.hid hn
  have HR := Lib.hid hr
  have HAW := Lib.hid (awake15_v w)
  clear hn hr
  by_cases hx : (x < 0 ∨ 1024 < x) ∨ 60 < n
  · by_cases h1 : x < 0
    · clear hx
      go_enter Try.func6, Try.ntmps6
      go_wp2_with fail
      refine HAW.out.mono ?_
      rintro e w1 ⟨rfl, hb⟩
      have HB := Lib.hid hb
      clear hb
      go_wp2_with fail
      go_ret
      exact ⟨rfl, HB.out⟩
    · by_cases h2 : 1024 < x
      · clear hx
        go_enter Try.func6, Try.ntmps6
        go_wp2_with fail
        refine HAW.out.mono ?_
        rintro e w1 ⟨rfl, hb⟩
        have HB := Lib.hid hb
        clear hb
        go_wp2_with fail
        go_ret
        exact ⟨rfl, HB.out⟩
      · have h3 : 60 < n := by omega
        clear hx
        go_enter Try.func6, Try.ntmps6
        go_wp2_with fail
        refine HAW.out.mono ?_
        rintro e w1 ⟨rfl, hb⟩
        have HB := Lib.hid hb
        clear hb
        go_wp2_with fail
        go_ret
        exact ⟨rfl, HB.out⟩
  · obtain ⟨R, rfl⟩ : ∃ R : Nat, x = (R : Int) := ⟨x.toNat, by omega⟩
    have hR : R ≤ 1024 := by omega
    have hn6 : n ≤ 60 := by omega
    clear hx
    go_enter Try.func6, Try.ntmps6
    go_wp2_with fail
    refine HAW.out.mono ?_
    rintro e w1 ⟨rfl, hb0⟩
    have HB0 := Lib.hid hb0
    have N1 := Lib.hid (new15_v R w1 hR)
    clear hb0 HAW
    go_wp2_with fail
    refine N1.out.mono ?_
    rintro e w2 ⟨B, X0, rfl, hp, hb, hx⟩
    have T1 : Hid (Two15 w w2 (tH15 X0 B R [[]]) tN15) := Lib.hid ⟨HB0.out.trans (hb.mono HB0.out.size), hp, trivial, fun j hj => Nat.le_trans HB0.out.size (hx j hj), fun _ => False.elim, fun _ _ => id⟩
    clear hp hb hx N1
    go_wp2_with fail
    go_loopw [7, 8, 9] (fun uv mv iv wr => ∃ (i u m : Nat) (X : Nat → Prop) (Z : List (List Int)), i ≤ n ∧ iv = .int .i64 i ∧ uv = .int .i64 u ∧ mv = .int .i64 m ∧ Hid (u = us15 Z) ∧ Hid (Z.length = m + 1) ∧ m ≤ i ∧ u ≤ R ∧ Hid (Two15 w wr (tH15 X B R Z) tN15)) (fun _ _ iv _ => n - (intOf iv).toNat)
    case atStart => exact ⟨0, 0, 0, X0, [[]], by omega, rfl, rfl, rfl, Lib.hid rfl, Lib.hid rfl, by omega, by omega, T1⟩
    case round =>
      clear T1
      obtain ⟨i, u, m, X, Z, hi, rfl, rfl, rfl, HU, HZ, hm, hu, HT⟩ := hrel
      rename World => wr
      by_cases h1 : i < n
      · obtain ⟨y, hy⟩ : ∃ y, L[i]? = some y := ⟨_, List.getElem?_eq_getElem (by rw [HN.out]; exact h1)⟩
        have HY := Lib.hid hy
        obtain ⟨ad, hA, ca, hy1, hy2⟩ := (HR.out.keep HT.out.be).at_ hy
        subst hA
        clear hy
        by_cases g1 : y < 0
        · skip
          have HMK := Lib.hid (make15_v X B R Z y _ HT.out.s (by have := HZ.out; omega))
          have q1 : mkE15 R Z y = 2 := mk15_big (by omega)
          have q2 : mkZ15 R Z y = Z := by rw [mkZ15, q1]; rw [if_neg (by decide)]
          have q3 : mkN15 R Z y = 0 := by rw [mkN15, q1]; rw [if_neg (by decide)]
          rw [q1, q2, q3] at HMK
          have HZ2 : Hid (Z.length = m + 1) := HZ
          clear q1 q2 q3 
          go_wp2_with fail
          refine HMK.out.mono ?_
          rintro e w3 ⟨rfl, X1, hp, hf, hx⟩
          have T3 := Lib.hid (HT.out.left (S' := tH15 X1 B R Z) hp hf hx)
          obtain ⟨ad2, hA2, ca2, -⟩ := (HR.out.keep T3.out.be).at_ HY.out
          injection hA2 with hA2
          subst hA2
          clear hp hf hx HMK ca
          have HZ3 : Hid (Z.length = m + 1) := Lib.hid (by exact HZ.out)
          have HU3 : Hid (us15 Z = u) := Lib.hid (by exact HU.out.symm)
          obtain ⟨i1, i2⟩ := is15_last HZ3.out
          have HL1 := Lib.hid (len15_v X1 B R Z ((m : Nat) : Int) w3 T3.out.s (by have := HZ3.out; omega))
          have HL2 := Lib.hid (len15_v X1 B R Z (((m : Nat) : Int) + 1) w3 T3.out.s (by have := HZ3.out; omega))
          have HUS := Lib.hid (used15_v X1 B R Z w3 T3.out.s (by have := HZ3.out; omega))
          rw [i1] at HL1
          rw [i2] at HL2
          rw [HU3.out] at HUS
          clear i1 i2
          go_wp2_with fail
          refine HL1.out.mono ?_
          rintro e w4 ⟨rfl, rfl⟩
          go_wp2_with fail
          refine HL2.out.mono ?_
          rintro e w5 ⟨rfl, rfl⟩
          go_wp2_with fail
          refine HUS.out.mono ?_
          rintro e w6 ⟨rfl, hb⟩
          have T6 := Lib.hid (T3.out.keep hb)
          clear hb HL1 HL2 HUS ca2
          go_wp2_with fail
          go_roundw
          case rel => exact ⟨i + 1, u, m, X1, Z, by omega, by go_num, by go_num, by go_num, Lib.hid HU3.out.symm, HZ3, by omega, by omega, T6⟩
          case measure => simp [intOf]; omega
        · by_cases g2 : 1024 < y
          · skip
            have HMK := Lib.hid (make15_v X B R Z y _ HT.out.s (by have := HZ.out; omega))
            have q1 : mkE15 R Z y = 2 := mk15_big (by omega)
            have q2 : mkZ15 R Z y = Z := by rw [mkZ15, q1]; rw [if_neg (by decide)]
            have q3 : mkN15 R Z y = 0 := by rw [mkN15, q1]; rw [if_neg (by decide)]
            rw [q1, q2, q3] at HMK
            have HZ2 : Hid (Z.length = m + 1) := HZ
            clear q1 q2 q3 
            go_wp2_with fail
            refine HMK.out.mono ?_
            rintro e w3 ⟨rfl, X1, hp, hf, hx⟩
            have T3 := Lib.hid (HT.out.left (S' := tH15 X1 B R Z) hp hf hx)
            obtain ⟨ad2, hA2, ca2, -⟩ := (HR.out.keep T3.out.be).at_ HY.out
            injection hA2 with hA2
            subst hA2
            clear hp hf hx HMK ca
            have HZ3 : Hid (Z.length = m + 1) := Lib.hid (by exact HZ.out)
            have HU3 : Hid (us15 Z = u) := Lib.hid (by exact HU.out.symm)
            obtain ⟨i1, i2⟩ := is15_last HZ3.out
            have HL1 := Lib.hid (len15_v X1 B R Z ((m : Nat) : Int) w3 T3.out.s (by have := HZ3.out; omega))
            have HL2 := Lib.hid (len15_v X1 B R Z (((m : Nat) : Int) + 1) w3 T3.out.s (by have := HZ3.out; omega))
            have HUS := Lib.hid (used15_v X1 B R Z w3 T3.out.s (by have := HZ3.out; omega))
            rw [i1] at HL1
            rw [i2] at HL2
            rw [HU3.out] at HUS
            clear i1 i2
            go_wp2_with fail
            refine HL1.out.mono ?_
            rintro e w4 ⟨rfl, rfl⟩
            go_wp2_with fail
            refine HL2.out.mono ?_
            rintro e w5 ⟨rfl, rfl⟩
            go_wp2_with fail
            refine HUS.out.mono ?_
            rintro e w6 ⟨rfl, hb⟩
            have T6 := Lib.hid (T3.out.keep hb)
            clear hb HL1 HL2 HUS ca2
            go_wp2_with fail
            go_roundw
            case rel => exact ⟨i + 1, u, m, X1, Z, by omega, by go_num, by go_num, by go_num, Lib.hid HU3.out.symm, HZ3, by omega, by omega, T6⟩
            case measure => simp [intOf]; omega
          · obtain ⟨k, rfl⟩ : ∃ k : Nat, y = (k : Int) := ⟨y.toNat, by omega⟩
            by_cases g3 : R < u + k
            · skip
              have HMK := Lib.hid (make15_v X B R Z (k : Int) _ HT.out.s (by have := HZ.out; omega))
              have q1 : mkE15 R Z (k : Int) = 4 := mk15_full (by omega) (by rw [← HU.out]; omega)
              have q2 : mkZ15 R Z (k : Int) = Z := by rw [mkZ15, q1]; rw [if_neg (by decide)]
              have q3 : mkN15 R Z (k : Int) = 0 := by rw [mkN15, q1]; rw [if_neg (by decide)]
              rw [q1, q2, q3] at HMK
              have HZ2 : Hid (Z.length = m + 1) := HZ
              clear q1 q2 q3 
              go_wp2_with fail
              refine HMK.out.mono ?_
              rintro e w3 ⟨rfl, X1, hp, hf, hx⟩
              have T3 := Lib.hid (HT.out.left (S' := tH15 X1 B R Z) hp hf hx)
              obtain ⟨ad2, hA2, ca2, -⟩ := (HR.out.keep T3.out.be).at_ HY.out
              injection hA2 with hA2
              subst hA2
              clear hp hf hx HMK ca
              have HZ3 : Hid (Z.length = m + 1) := Lib.hid (by exact HZ.out)
              have HU3 : Hid (us15 Z = u) := Lib.hid (by exact HU.out.symm)
              obtain ⟨i1, i2⟩ := is15_last HZ3.out
              have HL1 := Lib.hid (len15_v X1 B R Z ((m : Nat) : Int) w3 T3.out.s (by have := HZ3.out; omega))
              have HL2 := Lib.hid (len15_v X1 B R Z (((m : Nat) : Int) + 1) w3 T3.out.s (by have := HZ3.out; omega))
              have HUS := Lib.hid (used15_v X1 B R Z w3 T3.out.s (by have := HZ3.out; omega))
              rw [i1] at HL1
              rw [i2] at HL2
              rw [HU3.out] at HUS
              clear i1 i2
              go_wp2_with fail
              refine HL1.out.mono ?_
              rintro e w4 ⟨rfl, rfl⟩
              go_wp2_with fail
              refine HL2.out.mono ?_
              rintro e w5 ⟨rfl, rfl⟩
              go_wp2_with fail
              refine HUS.out.mono ?_
              rintro e w6 ⟨rfl, hb⟩
              have T6 := Lib.hid (T3.out.keep hb)
              clear hb HL1 HL2 HUS ca2
              go_wp2_with fail
              go_roundw
              case rel => exact ⟨i + 1, u, m, X1, Z, by omega, by go_num, by go_num, by go_num, Lib.hid HU3.out.symm, HZ3, by omega, by omega, T6⟩
              case measure => simp [intOf]; omega
            · have g4 : (k : Int) ≤ (R : Int) - u := by omega
              have HMK := Lib.hid (make15_v X B R Z (k : Int) _ HT.out.s (by have := HZ.out; omega))
              have q1 : mkE15 R Z (k : Int) = 0 := mk15_ok (by omega) (by rw [← HU.out]; omega)
              have q2 : mkZ15 R Z (k : Int) = (Z ++ [List.replicate k 0]) := by rw [mkZ15, q1]; rw [if_pos rfl]; rfl
              have q3 : mkN15 R Z (k : Int) = (Z.length : Int) := by rw [mkN15, q1]; rw [if_pos rfl]
              rw [q1, q2, q3] at HMK
              have HZ2 : Hid (Z.length = m + 1) := HZ
              have hzz : Z.length = m + 1 := HZ.out
              rw [hzz] at HMK
              clear q1 q2 q3 hzz
              go_wp2_with fail
              refine HMK.out.mono ?_
              rintro e w3 ⟨rfl, X1, hp, hf, hx⟩
              have T3 := Lib.hid (HT.out.left (S' := tH15 X1 B R (Z ++ [List.replicate k 0])) hp hf hx)
              obtain ⟨ad2, hA2, ca2, -⟩ := (HR.out.keep T3.out.be).at_ HY.out
              injection hA2 with hA2
              subst hA2
              clear hp hf hx HMK ca
              have HZ3 : Hid ((Z ++ [List.replicate k 0]).length = (m + 1) + 1) := Lib.hid (by rw [List.length_append, HZ.out]; rfl)
              have HU3 : Hid (us15 (Z ++ [List.replicate k 0]) = (u + k)) := Lib.hid (by rw [us15_snoc, List.length_replicate, HU.out])
              obtain ⟨i1, i2⟩ := is15_last HZ3.out
              have HL1 := Lib.hid (len15_v X1 B R (Z ++ [List.replicate k 0]) (((m + 1) : Nat) : Int) w3 T3.out.s (by have := HZ3.out; omega))
              have HL2 := Lib.hid (len15_v X1 B R (Z ++ [List.replicate k 0]) ((((m + 1) : Nat) : Int) + 1) w3 T3.out.s (by have := HZ3.out; omega))
              have HUS := Lib.hid (used15_v X1 B R (Z ++ [List.replicate k 0]) w3 T3.out.s (by have := HZ3.out; omega))
              rw [i1] at HL1
              rw [i2] at HL2
              rw [HU3.out] at HUS
              rw [show (((m + 1 : Nat)) : Int) = (m : Int) + 1 from by omega] at HL1 HL2
              rw [show (((u + k : Nat)) : Int) = (u : Int) + k from by omega] at HUS
              clear i1 i2
              go_wp2_with fail
              refine HL1.out.mono ?_
              rintro e w4 ⟨rfl, rfl⟩
              go_wp2_with fail
              refine HL2.out.mono ?_
              rintro e w5 ⟨rfl, rfl⟩
              go_wp2_with fail
              refine HUS.out.mono ?_
              rintro e w6 ⟨rfl, hb⟩
              have T6 := Lib.hid (T3.out.keep hb)
              clear hb HL1 HL2 HUS ca2
              go_wp2_with fail
              go_roundw
              case rel => exact ⟨i + 1, (u + k), (m + 1), X1, (Z ++ [List.replicate k 0]), by omega, by go_num, by go_num, by go_num, Lib.hid HU3.out.symm, HZ3, by omega, by omega, T6⟩
              case measure => simp [intOf]; omega
      · obtain rfl : i = n := by omega
        go_wp2_with fail
        go_ret
        exact ⟨rfl, HT.out.be⟩
end Go.Proofs.Ytibiocjdkndnhaa
