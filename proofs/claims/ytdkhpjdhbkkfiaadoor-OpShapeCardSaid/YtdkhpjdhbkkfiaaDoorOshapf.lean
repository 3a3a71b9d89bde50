/-
  The walk of OpShape: the opcodes of a fixed shape; all ways put together.
-/
import Derived.Test.YtdkhpjdhbkkfiaaDoorOshape
namespace Go.Proofs.YtdkhpjdhbkkfiaaDoor
open Go.RowKit
set_option linter.unusedSimpArgs false
set_option linter.unusedVariables false

set_option maxHeartbeats 2000000 in
theorem oshape_l (n : Int) (T : List Int) (w : World) (hw : GN w) (h : tkL n = T ∧ gvL n = [] ∧ fxB n = true) (hk : opK n = true) (hl : opL n = true) (hT : Byt T) (ht : T.length ≤ 3) (hti : ∀ x ∈ T, x ≤ 3 ∧ (x = 0 → n = 6)) :
    Calls Tryd.prog 7 #[.int .u8 n] w fun e w' => e = .returned (.bool true) ∧ Below w.heap.size w w' := by
  have HF := Lib.hid h
  have HK := Lib.hid hk
  have HL := Lib.hid hl
  have HT := Lib.hid hT
  have HTI := Lib.hid hti
  have S0 := Lib.hid ((Sx.start w).add fN hw)
  clear hw h hk hl hT hti
  go_enter Tryd.func7, Tryd.ntmps7
  go_wp2_with fail
  refine (oawake_any _ S0.out.2.1).mono ?_
  rintro e w1 ⟨rfl, hb1⟩
  have S1 := Lib.hid (S0.out.call hb1)
  clear hb1 S0
  go_wp2_with fail
  refine (of_v n T [] true _ HF.out HT.out (byt_of rfl)).mono ?_
  rintro e w2 ⟨A, c, A', c', rfl, r1, r2, hb2⟩
  have S2 := Lib.hid (((((S1.out.call hb2).add (fR A c T) r1).add (fR A' c' []) r2).mk1 (.cells #[.slice A T.length c, .slice A' 0 c'] 37)).add (fS w2.heap.size _ _) (Sh.new w2 _ _))
  clear hb2 S1 r1 r2
  rw [show ([] : List Int).length = 0 from rfl]
  go_wp2_with fail
  refine (known_v n _ _ HK.out).mono ?_
  rintro e w4 ⟨rfl, rfl⟩
  go_wp2_with fail
  refine (leads_v n _ _ HL.out).mono ?_
  rintro e w5 ⟨rfl, rfl⟩
  go_wp2_with fail
  generalize hw3 : w2.alloc (.cells #[.slice A T.length c, .slice A' 0 c'] 37) = w3 at *
  obtain ⟨-, ⟨z0, z1, z2⟩, R2, R1, -⟩ := S2.out
  have hrl := R1.len
  have hrl2 := R2.len
  have R1 := Lib.hid R1
  have R2 := Lib.hid R2
  go_loop [6] (fun i => ∃ j : Nat, j ≤ T.length ∧ i = .int .i64 j) (fun i => 3 - (intOf i).toNat)
  case atStart => exact ⟨0, by omega, rfl⟩
  case round =>
    obtain ⟨j, hj, rfl⟩ := hrel
    by_cases h1 : j < T.length
    · obtain ⟨ad, rfl, hcell⟩ := R1.out.at_ h1
      have hm := HTI.out _ (List.getElem_mem h1)
      have hby := R1.out.byte j
      rw [List.getElem?_eq_getElem h1, Option.getD_some] at hcell hby
      generalize T[j] = x at *
      obtain ⟨hm1, hm2⟩ := hm
      by_cases hx : x = 0
      · have hn := hm2 hx
        subst hx
        subst hn
        clear hm2
        go_wp2_with fail
        go_round
        case rel => exact ⟨j + 1, by omega, by go_num⟩
        case measure => simp [intOf]; omega
      · clear hm2
        go_wp2_with fail
        go_round
        case rel => exact ⟨j + 1, by omega, by go_num⟩
        case measure => simp [intOf]; omega
    · obtain rfl : j = T.length := by omega
      go_wp2_with fail
      go_loop [7] (fun i => i = .int .i64 0) (fun _ => 0)
      case atStart => rfl
      case round =>
        subst hrel
        go_wp2_with fail
        go_ret
        exact ⟨rfl, S2.out.1⟩

set_option maxHeartbeats 2000000 in
theorem oshape_s (n : Int) (T : List Int) (w : World) (hw : GN w) (h : tkL n = T ∧ gvL n = [] ∧ fxB n = true) (hk : opK n = true) (hl : opL n = false) (hg : opG n = false) (hT : Byt T) (ht : T.length ≤ 3) (hti : ∀ x ∈ T, x ≤ 3 ∧ (x = 0 → n = 6)) :
    Calls Tryd.prog 7 #[.int .u8 n] w fun e w' => e = .returned (.bool true) ∧ Below w.heap.size w w' := by
  have HF := Lib.hid h
  have HK := Lib.hid hk
  have HL := Lib.hid hl
  have HG := Lib.hid hg
  have HT := Lib.hid hT
  have HTI := Lib.hid hti
  have S0 := Lib.hid ((Sx.start w).add fN hw)
  clear hw h hk hl hg hT hti
  go_enter Tryd.func7, Tryd.ntmps7
  go_wp2_with fail
  refine (oawake_any _ S0.out.2.1).mono ?_
  rintro e w1 ⟨rfl, hb1⟩
  have S1 := Lib.hid (S0.out.call hb1)
  clear hb1 S0
  go_wp2_with fail
  refine (of_v n T [] true _ HF.out HT.out (byt_of rfl)).mono ?_
  rintro e w2 ⟨A, c, A', c', rfl, r1, r2, hb2⟩
  have S2 := Lib.hid (((((S1.out.call hb2).add (fR A c T) r1).add (fR A' c' []) r2).mk1 (.cells #[.slice A T.length c, .slice A' 0 c'] 37)).add (fS w2.heap.size _ _) (Sh.new w2 _ _))
  clear hb2 S1 r1 r2
  rw [show ([] : List Int).length = 0 from rfl]
  go_wp2_with fail
  refine (known_v n _ _ HK.out).mono ?_
  rintro e w4 ⟨rfl, rfl⟩
  go_wp2_with fail
  refine (leads_v n _ _ HL.out).mono ?_
  rintro e w5 ⟨rfl, rfl⟩
  go_wp2_with fail
  refine (goes_v n _ _ HG.out).mono ?_
  rintro e w5 ⟨rfl, rfl⟩
  go_wp2_with fail
  generalize hw3 : w2.alloc (.cells #[.slice A T.length c, .slice A' 0 c'] 37) = w3 at *
  obtain ⟨-, ⟨z0, z1, z2⟩, R2, R1, -⟩ := S2.out
  have hrl := R1.len
  have hrl2 := R2.len
  have R1 := Lib.hid R1
  have R2 := Lib.hid R2
  go_loop [6] (fun i => ∃ j : Nat, j ≤ T.length ∧ i = .int .i64 j) (fun i => 3 - (intOf i).toNat)
  case atStart => exact ⟨0, by omega, rfl⟩
  case round =>
    obtain ⟨j, hj, rfl⟩ := hrel
    by_cases h1 : j < T.length
    · obtain ⟨ad, rfl, hcell⟩ := R1.out.at_ h1
      have hm := HTI.out _ (List.getElem_mem h1)
      have hby := R1.out.byte j
      rw [List.getElem?_eq_getElem h1, Option.getD_some] at hcell hby
      generalize T[j] = x at *
      obtain ⟨hm1, hm2⟩ := hm
      by_cases hx : x = 0
      · have hn := hm2 hx
        subst hx
        subst hn
        clear hm2
        go_wp2_with fail
        go_round
        case rel => exact ⟨j + 1, by omega, by go_num⟩
        case measure => simp [intOf]; omega
      · clear hm2
        go_wp2_with fail
        go_round
        case rel => exact ⟨j + 1, by omega, by go_num⟩
        case measure => simp [intOf]; omega
    · obtain rfl : j = T.length := by omega
      go_wp2_with fail
      go_loop [7] (fun i => i = .int .i64 0) (fun _ => 0)
      case atStart => rfl
      case round =>
        subst hrel
        go_wp2_with fail
        go_ret
        exact ⟨rfl, S2.out.1⟩

set_option maxHeartbeats 2000000 in
theorem oshape_g (n : Int) (T V : List Int) (w : World) (hw : GN w) (h : tkL n = T ∧ gvL n = V ∧ fxB n = true) (hk : opK n = true) (hl : opL n = false) (hg : opG n = true) (hT : Byt T) (hV : Byt V) (hv : V.length ≤ 1) (hvi : ∀ x ∈ V, 1 ≤ x ∧ x ≤ 3) (ht : T.length ≤ 3) (hti : ∀ x ∈ T, x ≤ 3 ∧ (x = 0 → n = 6)) :
    Calls Tryd.prog 7 #[.int .u8 n] w fun e w' => e = .returned (.bool true) ∧ Below w.heap.size w w' := by
  have HF := Lib.hid h
  have HK := Lib.hid hk
  have HL := Lib.hid hl
  have HG := Lib.hid hg
  have HT := Lib.hid hT
  have HTI := Lib.hid hti
  have HV := Lib.hid hV
  have HVI := Lib.hid hvi
  have S0 := Lib.hid ((Sx.start w).add fN hw)
  clear hw h hk hl hg hT hti hV hvi
  go_enter Tryd.func7, Tryd.ntmps7
  go_wp2_with fail
  refine (oawake_any _ S0.out.2.1).mono ?_
  rintro e w1 ⟨rfl, hb1⟩
  have S1 := Lib.hid (S0.out.call hb1)
  clear hb1 S0
  go_wp2_with fail
  refine (of_v n T V true _ HF.out HT.out HV.out).mono ?_
  rintro e w2 ⟨A, c, A', c', rfl, r1, r2, hb2⟩
  have S2 := Lib.hid (((((S1.out.call hb2).add (fR A c T) r1).add (fR A' c' V) r2).mk1 (.cells #[.slice A T.length c, .slice A' V.length c'] 37)).add (fS w2.heap.size _ _) (Sh.new w2 _ _))
  clear hb2 S1 r1 r2
  skip
  go_wp2_with fail
  refine (known_v n _ _ HK.out).mono ?_
  rintro e w4 ⟨rfl, rfl⟩
  go_wp2_with fail
  refine (leads_v n _ _ HL.out).mono ?_
  rintro e w5 ⟨rfl, rfl⟩
  go_wp2_with fail
  refine (goes_v n _ _ HG.out).mono ?_
  rintro e w5 ⟨rfl, rfl⟩
  go_wp2_with fail
  generalize hw3 : w2.alloc (.cells #[.slice A T.length c, .slice A' V.length c'] 37) = w3 at *
  obtain ⟨-, ⟨z0, z1, z2⟩, R2, R1, -⟩ := S2.out
  have hrl := R1.len
  have hrl2 := R2.len
  have R1 := Lib.hid R1
  have R2 := Lib.hid R2
  go_loop [6] (fun i => ∃ j : Nat, j ≤ T.length ∧ i = .int .i64 j) (fun i => 3 - (intOf i).toNat)
  case atStart => exact ⟨0, by omega, rfl⟩
  case round =>
    obtain ⟨j, hj, rfl⟩ := hrel
    by_cases h1 : j < T.length
    · obtain ⟨ad, rfl, hcell⟩ := R1.out.at_ h1
      have hm := HTI.out _ (List.getElem_mem h1)
      have hby := R1.out.byte j
      rw [List.getElem?_eq_getElem h1, Option.getD_some] at hcell hby
      generalize T[j] = x at *
      obtain ⟨hm1, hm2⟩ := hm
      by_cases hx : x = 0
      · have hn := hm2 hx
        subst hx
        subst hn
        clear hm2
        go_wp2_with fail
        go_round
        case rel => exact ⟨j + 1, by omega, by go_num⟩
        case measure => simp [intOf]; omega
      · clear hm2
        go_wp2_with fail
        go_round
        case rel => exact ⟨j + 1, by omega, by go_num⟩
        case measure => simp [intOf]; omega
    · obtain rfl : j = T.length := by omega
      go_wp2_with fail
      go_loop [7] (fun i => ∃ j : Nat, j ≤ V.length ∧ i = .int .i64 j) (fun i => 1 - (intOf i).toNat)
      case atStart => exact ⟨0, by omega, rfl⟩
      case round =>
        obtain ⟨j, hj, rfl⟩ := hrel
        by_cases h1 : j < V.length
        · obtain ⟨ad, rfl, hcell⟩ := R2.out.at_ h1
          have hm := HVI.out _ (List.getElem_mem h1)
          have hby := R2.out.byte j
          rw [List.getElem?_eq_getElem h1, Option.getD_some] at hcell hby
          generalize V[j] = x at *
          obtain ⟨hm1, hm2⟩ := hm
          go_wp2_with fail
          go_round
          case rel => exact ⟨j + 1, by omega, by go_num⟩
          case measure => simp [intOf]; omega
        · obtain rfl : j = V.length := by omega
          go_wp2_with fail
          go_ret
          exact ⟨rfl, S2.out.1⟩

set_option maxRecDepth 100000 in
theorem shape_ok : ∀ n ∈ ([0, 6, 9, 10, 11, 12, 13, 14, 15, 16, 17, 18, 19, 20, 21, 22, 23, 24, 25, 26, 27, 28, 29, 32] : List Int), opK n = true ∧ (tkL n).length ≤ 3 ∧ (∀ x ∈ tkL n, 0 ≤ x ∧ x ≤ 3 ∧ (x = 0 → n = 6)) ∧ (gvL n).length ≤ 1 ∧ (∀ x ∈ gvL n, 1 ≤ x ∧ x ≤ 3) ∧ ((opL n = true ∨ opG n = false) → gvL n = []) := by decide
theorem oshape_walk (n : Int) (w : World) (hw : GN w) (h0 : 0 ≤ n) : Calls Tryd.prog 7 #[.int .u8 n] w fun e w' => e = .returned (.bool true) ∧ Below w.heap.size w w' := by
  cases h : fxB n with
  | true =>
    have h' : n = 0 ∨ n = 6 ∨ (9 ≤ n ∧ n ≤ 29) ∨ n = 32 := by simpa [fxB] using h
    have hm : n ∈ ([0, 6, 9, 10, 11, 12, 13, 14, 15, 16, 17, 18, 19, 20, 21, 22, 23, 24, 25, 26, 27, 28, 29, 32] : List Int) := by simp; omega
    obtain ⟨hk, ht, hti, hv, hvi, hz⟩ := shape_ok n hm
    have hT : Byt (tkL n) := fun x hx => by have := hti x hx; omega
    have hV : Byt (gvL n) := fun x hx => by have := hvi x hx; omega
    have hti' : ∀ x ∈ tkL n, x ≤ 3 ∧ (x = 0 → n = 6) := fun x hx => (hti x hx).2
    cases hl : opL n with
    | true => exact oshape_l n _ w hw ⟨rfl, hz (.inl hl), h⟩ hk hl hT ht hti'
    | false =>
      cases hg : opG n with
      | true => exact oshape_g n _ _ w hw ⟨rfl, rfl, h⟩ hk hl hg hT hV hv hvi ht hti'
      | false => exact oshape_s n _ w hw ⟨rfl, hz (.inr hg), h⟩ hk hl hg hT ht hti'
  | false =>
    have h' : ¬ (n = 0 ∨ n = 6 ∨ (9 ≤ n ∧ n ≤ 29) ∨ n = 32) := by simpa [fxB] using h
    have : n = 1 ∨ n = 2 ∨ n = 3 ∨ n = 4 ∨ n = 5 ∨ n = 7 ∨ n = 8 ∨ n = 30 ∨ n = 31 ∨ 33 ≤ n := by omega
    rcases this with rfl | rfl | rfl | rfl | rfl | rfl | rfl | rfl | rfl | hn
    · exact oshape_1 w hw
    · exact oshape_2 w hw
    · exact oshape_3 w hw
    · exact oshape_4 w hw
    · exact oshape_5 w hw
    · exact oshape_7 w hw
    · exact oshape_8 w hw
    · exact oshape_30 w hw
    · exact oshape_31 w hw
    · exact oshape_none n hn w hw
end Go.Proofs.YtdkhpjdhbkkfiaaDoor
