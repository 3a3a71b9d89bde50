/-
  The walk of ValueOne, whole: for every two values it returns true; nothing that was there has changed.
-/
import Derived.Test.YtndgiehipajghaaDoorVone
namespace Go.Proofs.YtndgiehipajghaaDoor
open Go.RowKit
set_option linter.unusedSimpArgs false
set_option linter.unusedVariables false

theorem bytE_f {k a b : Int} (h : mayB k a b = false) : bytE k a b = 30 ∧ bytL k a b = [] ∧ ([] : List Int).length = 0 := by simp [bytE, bytL, h]
theorem bytE_1 (a : Int) : bytE 1 a 0 = 0 ∧ bytL 1 a 0 = valB 1 a 0 ∧ (valB 1 a 0).length = 9 := by
  have h : mayB 1 a 0 = true := by simp [mayB]
  exact ⟨by simp [bytE, h], by simp [bytL, h], len_1 a⟩
theorem bytE_2 {a b : Int} (h : okB a b = true) : bytE 2 a b = 0 ∧ bytL 2 a b = valB 2 a b ∧ (valB 2 a b).length = 7 := by
  have h : mayB 2 a b = true := by simp [mayB, h]
  exact ⟨by simp [bytE, h], by simp [bytL, h], len_2 a b⟩

set_option maxHeartbeats 1000000 in
theorem one_e1 (k a b k' a' b' : Int) (w : World) (hw : GW w) (hm : mayB k a b = false) (L' : List Int) (N2 : Nat) (e2 : Int) (h2 : bytE k' a' b' = e2 ∧ bytL k' a' b' = L' ∧ L'.length = N2) :
    Calls Tryd.prog 6 #[.agg #[.int .u8 k, .int .i64 a, .int .i64 b], .agg #[.int .u8 k', .int .i64 a', .int .i64 b']] w fun e w' => e = .returned (.bool true) ∧ Below w.heap.size w w' := by
  have H1 := Lib.hid (bytE_f hm)
  have H2 := Lib.hid h2
  have G := Lib.hid hw
  clear hm h2 hw
  go_enter Tryd.func6, Tryd.ntmps6
  go_wp2_with fail
  have S0 := Lib.hid ((((Sx.start w).add fG G.out).mkV k a b).mkV k' a' b')
  refine (awake_any _ S0.out.2.2.2.1).mono ?_
  rintro e w1 ⟨rfl, hb1⟩
  have S1 := Lib.hid (S0.out.call hb1)
  rw [size1] at S1
  clear hb1 G S0
  obtain ⟨-, ⟨z0, z1, z2, z3, -⟩, ⟨y0, y1, y2, y3, -⟩, -⟩ := S1.out
  go_wp2_with fail
  refine (vbytes_v k a b 30 _ _ _ S1.out.2.2.2.1 H1.out).mono ?_
  rintro e w2 ⟨A2, c2, rfl, ho2, hb2⟩
  have S2 := Lib.hid (S1.out.call hb2)
  clear hb2 ho2 S1 z0 z1 z2 z3 y0 y1 y2 y3
  obtain ⟨-, ⟨z0, z1, z2, z3, -⟩, ⟨y0, y1, y2, y3, -⟩, -⟩ := S2.out
  go_wp2_with fail
  refine (vbytes_v k' a' b' _ _ _ _ S2.out.2.2.2.1 H2.out).mono ?_
  rintro e w3 ⟨A3, c3, rfl, ho3, hb3⟩
  have S3 := Lib.hid (S2.out.call hb3)
  clear hb3 ho3 S2 z0 z1 z2 z3 y0 y1 y2 y3
  go_wp2_with fail
  go_ret
  exact ⟨rfl, S3.out.1⟩
set_option maxHeartbeats 1000000 in
theorem one_e2 (k a b k' a' b' : Int) (w : World) (hw : GW w) (hm : mayB k' a' b' = false) (L : List Int) (N1 : Nat) (h1 : bytE k a b = 0 ∧ bytL k a b = L ∧ L.length = N1) :
    Calls Tryd.prog 6 #[.agg #[.int .u8 k, .int .i64 a, .int .i64 b], .agg #[.int .u8 k', .int .i64 a', .int .i64 b']] w fun e w' => e = .returned (.bool true) ∧ Below w.heap.size w w' := by
  have H2 := Lib.hid (bytE_f hm)
  have H1 := Lib.hid h1
  have G := Lib.hid hw
  clear hm h1 hw
  go_enter Tryd.func6, Tryd.ntmps6
  go_wp2_with fail
  have S0 := Lib.hid ((((Sx.start w).add fG G.out).mkV k a b).mkV k' a' b')
  refine (awake_any _ S0.out.2.2.2.1).mono ?_
  rintro e w1 ⟨rfl, hb1⟩
  have S1 := Lib.hid (S0.out.call hb1)
  rw [size1] at S1
  clear hb1 G S0
  obtain ⟨-, ⟨z0, z1, z2, z3, -⟩, ⟨y0, y1, y2, y3, -⟩, -⟩ := S1.out
  go_wp2_with fail
  refine (vbytes_v k a b 0 _ _ _ S1.out.2.2.2.1 H1.out).mono ?_
  rintro e w2 ⟨A2, c2, rfl, ho2, hb2⟩
  have S2 := Lib.hid (S1.out.call hb2)
  clear hb2 ho2 S1 z0 z1 z2 z3 y0 y1 y2 y3
  obtain ⟨-, ⟨z0, z1, z2, z3, -⟩, ⟨y0, y1, y2, y3, -⟩, -⟩ := S2.out
  go_wp2_with fail
  refine (vbytes_v k' a' b' 30 _ _ _ S2.out.2.2.2.1 H2.out).mono ?_
  rintro e w3 ⟨A3, c3, rfl, ho3, hb3⟩
  have S3 := Lib.hid (S2.out.call hb3)
  clear hb3 ho3 S2 z0 z1 z2 z3 y0 y1 y2 y3
  go_wp2_with fail
  go_ret
  exact ⟨rfl, S3.out.1⟩

theorem head_ne (a a' b' : Int) : valB 1 a 0 ≠ valB 2 a' b' := by
  rw [valB_1, valB_2]
  intro e
  injection e with e _
  exact absurd e (by decide)
theorem head_ne7 (a a' b' : Int) : (valB 1 a 0).take 7 ≠ valB 2 a' b' := by
  rw [valB_1, valB_2, List.take_succ_cons]
  intro e
  injection e with e _
  exact absurd e (by decide)
theorem one_walk (k a b k' a' b' : Int) (w : World) (hw : GW w) (ha : -9223372036854775808 ≤ a ∧ a ≤ 9223372036854775807) (ha' : -9223372036854775808 ≤ a' ∧ a' ≤ 9223372036854775807) :
    Calls Tryd.prog 6 #[.agg #[.int .u8 k, .int .i64 a, .int .i64 b], .agg #[.int .u8 k', .int .i64 a', .int .i64 b']] w fun e w' => e = .returned (.bool true) ∧ Below w.heap.size w w' := by
  cases hm : mayB k a b with
  | false => exact one_e1 k a b k' a' b' w hw hm _ _ _ ⟨rfl, rfl, rfl⟩
  | true =>
    cases hm' : mayB k' a' b' with
    | false => exact one_e2 k a b k' a' b' w hw hm' _ _ ⟨by simp [bytE, hm], rfl, rfl⟩
    | true =>
      rcases may_cases hm with ⟨rfl, rfl⟩ | ⟨rfl, ho⟩ <;> rcases may_cases hm' with ⟨rfl, rfl⟩ | ⟨rfl, ho'⟩
      · have e : ((strOfNums (valB 1 a 0)).toList == (strOfNums (valB 1 a' 0)).toList) = ((1 : Int) == 1 && a == a' && (0 : Int) == 0) := by
          rw [str_eq (byt_valB _ _ _) (byt_valB _ _ _)]
          by_cases h : a = a'
          · subst h; simp
          · rw [decide_eq_false (fun e => h ((valB_inj1 ha ha').1 e))]; simp [h]
        exact one_99 1 a 0 1 a' 0 _ _ _ _ _ _ _ w hw (bytE_1 a) (bytE_1 a') rfl ⟨rfl, rfl, rfl, rfl⟩ e e (byt_valB _ _ _) (byt_valB _ _ _)
      · have e : ((strOfNums (valB 1 a 0)).toList == (strOfNums (valB 2 a' b')).toList) = false := by
          rw [str_eq (byt_valB _ _ _) (byt_valB _ _ _), decide_eq_false (head_ne a a' b')]
        have e2 : ((strOfNums ((valB 1 a 0).take 7)).toList == (strOfNums (valB 2 a' b')).toList) = false := by
          rw [str_eq (byt_take (byt_valB _ _ _) _) (byt_valB _ _ _), decide_eq_false (head_ne7 a a' b')]
        exact one_97 1 a 0 2 a' b' false _ _ _ _ _ _ w hw (bytE_1 a) (bytE_2 ho') rfl ⟨rfl, rfl, rfl, rfl⟩ e e2 (byt_valB _ _ _) (byt_valB _ _ _)
      · have e : ((strOfNums (valB 2 a b)).toList == (strOfNums (valB 1 a' 0)).toList) = false := by
          rw [str_eq (byt_valB _ _ _) (byt_valB _ _ _), decide_eq_false (head_ne a' a b).symm]
        have e2 : ((strOfNums (valB 2 a b)).toList == (strOfNums ((valB 1 a' 0).take 7)).toList) = false := by
          rw [str_eq (byt_valB _ _ _) (byt_take (byt_valB _ _ _) _), decide_eq_false (head_ne7 a' a b).symm]
        exact one_79 2 a b 1 a' 0 false _ _ _ _ _ _ w hw (bytE_2 ho) (bytE_1 a') rfl ⟨rfl, rfl, rfl, rfl⟩ e e2 (byt_valB _ _ _) (byt_valB _ _ _)
      · have e : ((strOfNums (valB 2 a b)).toList == (strOfNums (valB 2 a' b')).toList) = ((2 : Int) == 2 && a == a' && b == b') := by
          rw [str_eq (byt_valB _ _ _) (byt_valB _ _ _)]
          by_cases h : a = a' ∧ b = b'
          · obtain ⟨rfl, rfl⟩ := h; simp
          · rw [decide_eq_false (fun e => h ((valB_inj2 ho ho').1 e))]
            by_cases h1 : a = a'
            · have h2 : b ≠ b' := fun e => h ⟨h1, e⟩
              simp [h2]
            · simp [h1]
        exact one_77 2 a b 2 a' b' _ _ _ _ _ _ _ w hw (bytE_2 ho) (bytE_2 ho') rfl ⟨rfl, rfl, rfl, rfl⟩ e e (byt_valB _ _ _) (byt_valB _ _ _)
end Go.Proofs.YtndgiehipajghaaDoor
