/-
  Layer 4's reference: what letter, kinds, shape, Of, Same answer.
-/
import Derived.Test.YtdkhpjdhbkkfiaaOpf
import Derived.Lib.Bytes
namespace Go.Proofs.Ytdkhpjdhbkkfiaa
open Go.RowKit
set_option linter.unusedSimpArgs false
set_option linter.unusedVariables false

/-- A kind by its letter. -/
def ltK (c : Int) : Int := if c = 110 then 1 else if c = 112 then 2 else if c = 114 then 3 else 0
theorem ltK_byte (c : Int) : 0 ≤ ltK c ∧ ltK c < 256 := by unfold ltK; repeat' split
                                                           all_goals omega
theorem letter_any (c : Int) (w : World) : Calls Try.prog 11 #[.int .u8 c] w fun e w' => e = .returned (.int .u8 (ltK c)) ∧ w = w' := by
  go_enter Try.func11, Try.ntmps11
  go_wp2_with fail
  all_goals go_ret
  all_goals (refine ⟨?_, rfl⟩; simp_all [ltK, go_sem])

theorem str_at {L : List Int} (hb : Byt L) {s : ByteArray} (hs : strOfNums L = s) (j : Nat) (h : j < s.size) (h' : j < L.length) : ((s[j]'h).toNat : Int) = L[j] := by
  subst hs
  have hx := hb L[j] (List.getElem_mem h')
  have e : (strOfNums L)[j]'h = UInt8.ofNat (L[j]).toNat := by
    have h1 : (strOfNums L)[j]'h = (strOfNums L).data[j]'h := rfl
    rw [h1]
    simp [strOfNums]
  rw [e, UInt8.toNat_ofNat']
  omega
set_option maxHeartbeats 1000000 in
theorem kinds_any (L : List Int) (hb : Byt L) (hl : L.length ≤ 1000) (w : World) : Calls Try.prog 8 #[.string (strOfNums L)] w fun e w' => ∃ A c, e = .returned (.slice A L.length c) ∧ w'.ownsRow w.heap.size 5 1 (.slice A L.length c) L.length (cel (L.map ltK)) ∧ Below w.heap.size w w' := by
  have hinfo := Try.info5
  rw [Option.map_eq_some_iff] at hinfo
  obtain ⟨i0, hi, hz⟩ := hinfo
  simp only [Prod.mk.injEq] at hz
  obtain ⟨hz0, hz1, hz2⟩ := hz
  obtain ⟨s, hs⟩ : ∃ s, strOfNums L = s := ⟨_, rfl⟩
  have hsz : s.size = L.length := by rw [← hs]; simp [strOfNums, ByteArray.size]
  have HS := Lib.hid hs
  rw [hs]
  clear hs
  go_enter Try.func8, Try.ntmps8
  go_wp2_with fail
  go_loopw [3, 4] (fun o i wr => ∃ (j : Nat) (A : Option Addr) (c : Nat), j ≤ L.length ∧ i = .int .i64 j ∧ o = .slice A j c ∧ wr.ownsRow w.heap.size 5 1 (.slice A j c) j (cel ((L.map ltK).take j)) ∧ Below w.heap.size w wr) (fun _ i _ => L.length - (intOf i).toNat)
  case atStart => exact ⟨0, none, 0, by omega, rfl, rfl, own_nil _ _, Below.refl _ _⟩
  case round =>
    obtain ⟨j, A, c, hj, rfl, rfl, hown, hb⟩ := hrel
    have HO := Lib.hid hown
    have HB := Lib.hid hb
    clear hown hb
    by_cases h1 : j < L.length
    · go_wp2_with fail
      refine (letter_any _ _).mono ?_
      rintro e w1 ⟨rfl, rfl⟩
      rw [str_at hb HS.out j (by omega) h1]
      have hk := ltK_byte L[j]
      have HN := Lib.hid (show (L.map ltK).take j ++ [ltK L[j]] = (L.map ltK).take (j + 1) by rw [List.take_add_one]; simp [h1])
      generalize ltK L[j] = x at *
      have HR := Lib.hid (rd_one wr x hk)
      have HO1 := Lib.hid (own_below HO.out (new1 (a := .cells #[.int .u8 x] 5)) (Nat.le_refl _))
      have HB1 := Lib.hid (HB.out.alloc HB.out.size (.cells #[.int .u8 x] 5))
      clear HO HB
      go_wp2_with (at_builtin; refine wpList_append_rd _ rfl _ _ 22 rfl w.heap.size 5 i0 Try.underlying22 hi hz0 hz1 hz2 _ j ((L.map ltK).take j) rfl HO1.out _ 1 1 [x] rfl HR.out rfl (by omega) HB1.out.size ?_)
      intro A' c' w2 hown2 _ hb2 _
      rw [HN.out] at hown2
      have HB2 := Lib.hid (HB1.out.trans hb2)
      have HO2 := Lib.hid hown2
      clear hb2 hown2
      go_wp2_with fail
      go_roundw
      case rel => exact ⟨j + 1, A', c', by omega, by go_num, rfl, HO2.out, HB2.out⟩
      case measure => simp [intOf]; omega
    · obtain rfl : j = L.length := by omega
      have HT := Lib.hid (show (L.map ltK).take L.length = L.map ltK by rw [List.take_of_length_le (by simp)])
      go_wp2_with fail
      go_ret
      have ho := HO.out
      rw [HT.out] at ho
      exact ⟨A, c, rfl, ho, HB.out⟩

/-- The texts of a shape. -/
def shT (n : Int) : List Int :=
  if n = 0 ∨ n = 26 ∨ n = 28 ∨ n = 29 ∨ n = 32 then [] else if (9 ≤ n ∧ n ≤ 15) ∨ n = 16 then [110, 110] else if n = 17 ∨ n = 18 ∨ n = 21 then [112] else if n = 19 ∨ n = 20 then [112, 112] else if n = 22 ∨ n = 27 then [110] else if n = 23 then [114, 110] else if n = 24 then [114, 110, 110] else if n = 25 then [114] else if n = 6 then [46] else [63]
def shV (n : Int) : List Int :=
  if n = 0 ∨ n = 26 ∨ n = 28 ∨ n = 29 ∨ n = 32 ∨ n = 24 ∨ n = 27 ∨ n = 6 then [] else if (9 ≤ n ∧ n ≤ 15) ∨ n = 17 ∨ n = 18 ∨ n = 23 ∨ n = 25 then [110] else if n = 16 ∨ n = 19 ∨ n = 20 ∨ n = 21 then [112] else if n = 22 then [114] else [63]
set_option maxHeartbeats 4000000 in
theorem shape_any (n : Int) (w : World) : Calls Try.prog 7 #[.int .u8 n] w fun e w' => e = .returned (.tuple #[.string (strOfNums (shT n)), .string (strOfNums (shV n))]) ∧ w = w' := by
  go_enter Try.func7, Try.ntmps7
  go_wp2_with fail
  all_goals go_ret2
  all_goals first
    | (rename_i h; obtain rfl := eq_of_beq h; exact ⟨rfl, rfl⟩)
    | (simp only [beq_eq_false_iff_ne, ne_eq] at *
       have e1 : shT n = [63] := by rw [shT]; repeat' rw [if_neg (by omega)]
       have e2 : shV n = [63] := by rw [shV]; repeat' rw [if_neg (by omega)]
       rw [e1, e2]
       exact ⟨rfl, trivial⟩)
theorem sh_open {n : Int} (h : fxB n = false) (h0 : 0 ≤ n) : shT n = [63] := by
  have h' : ¬ (n = 0 ∨ n = 6 ∨ (9 ≤ n ∧ n ≤ 29) ∨ n = 32) := by simpa [fxB] using h
  rw [shT]; repeat' rw [if_neg (by omega)]
set_option maxRecDepth 100000 in
theorem sh_all : ∀ n ∈ ([0, 6, 9, 10, 11, 12, 13, 14, 15, 16, 17, 18, 19, 20, 21, 22, 23, 24, 25, 26, 27, 28, 29, 32] : List Int), (Lib.bytesOf (shT n) == [63]) = false ∧ (∀ x ∈ shT n, 0 ≤ x ∧ x < 256) ∧ (∀ x ∈ shV n, 0 ≤ x ∧ x < 256) ∧ (shT n).length ≤ 3 ∧ (shV n).length ≤ 1 ∧ (shT n).map ltK = tkL n ∧ (shV n).map ltK = gvL n := by decide
theorem rof_f (n : Int) (w : World) (h : fxB n = false) (h0 : 0 ≤ n) : Calls Try.prog 4 #[.int .u8 n] w fun e w' => e = .returned (.tuple #[.slice none 0 0, .slice none 0 0, .bool false]) ∧ w = w' := by
  have e1 := sh_open h h0
  have HS := fun w => Lib.hid (shape_any n w)
  obtain ⟨V, hV⟩ : ∃ V, strOfNums (shV n) = V := ⟨_, rfl⟩
  simp only [e1, hV] at HS
  clear e1 hV
  go_enter Try.func4, Try.ntmps4
  go_wp2_with fail
  refine (HS _).out.mono ?_
  rintro e w1 ⟨rfl, rfl⟩
  rw [show strOfNums [63] = ⟨#[63]⟩ from rfl]
  go_wp2_with fail
  go_ret3
  exact ⟨rfl, rfl⟩
theorem rof_t (n : Int) (w : World) (h : fxB n = true) : Calls Try.prog 4 #[.int .u8 n] w fun e w' => ∃ A c A' c', e = .returned (.tuple #[.slice A (tkL n).length c, .slice A' (gvL n).length c', .bool true]) ∧ Rd w' A c (tkL n) ∧ Rd w' A' c' (gvL n) ∧ Below w.heap.size w w' := by
  have h' : n = 0 ∨ n = 6 ∨ (9 ≤ n ∧ n ≤ 29) ∨ n = 32 := by simpa [fxB] using h
  have hm : n ∈ ([0, 6, 9, 10, 11, 12, 13, 14, 15, 16, 17, 18, 19, 20, 21, 22, 23, 24, 25, 26, 27, 28, 29, 32] : List Int) := by simp; omega
  obtain ⟨h1, h2, h3, h4, h5, h6, h7⟩ := sh_all n hm
  have HS := fun w => Lib.hid (shape_any n w)
  have hq : ((strOfNums (shT n)).toList == [63]) = false := by rw [Lib.strOfNums_toList]; exact h1
  have kT := fun w => Lib.hid (kinds_any (shT n) h2 (by omega) w)
  have kV := fun w => Lib.hid (kinds_any (shV n) h3 (by omega) w)
  have bT : Byt (tkL n) := by rw [← h6]; intro x hx; obtain ⟨y, _, rfl⟩ := List.mem_map.1 hx; exact ltK_byte y
  have bV : Byt (gvL n) := by rw [← h7]; intro x hx; obtain ⟨y, _, rfl⟩ := List.mem_map.1 hx; exact ltK_byte y
  have lT : (tkL n).length = (shT n).length := by rw [← h6, List.length_map]
  have lV : (gvL n).length = (shV n).length := by rw [← h7, List.length_map]
  simp only [h6, ← lT] at kT
  simp only [h7, ← lV] at kV
  have HBT := Lib.hid bT
  have HBV := Lib.hid bV
  obtain ⟨s, hs⟩ : ∃ s, strOfNums (shT n) = s := ⟨_, rfl⟩
  obtain ⟨t, ht⟩ : ∃ t, strOfNums (shV n) = t := ⟨_, rfl⟩
  simp only [hs, ht] at HS hq kT kV
  clear h1 h2 h3 h4 h5 h6 h7 lT lV hs ht bT bV h' hm h
  generalize tkL n = T at *
  generalize gvL n = V at *
  go_enter Try.func4, Try.ntmps4
  go_wp2_with fail
  refine (HS _).out.mono ?_
  rintro e w1 ⟨rfl, rfl⟩
  go_wp2_with fail
  refine (kT _).out.mono ?_
  rintro e w2 ⟨A, c, rfl, ho2, hb2⟩
  have R2 := Lib.hid (own_rd ho2 HBT.out)
  have B2 := Lib.hid hb2
  clear ho2 hb2
  go_wp2_with fail
  refine (kV _).out.mono ?_
  rintro e w3 ⟨A', c', rfl, ho3, hb3⟩
  have R3 := Lib.hid (own_rd ho3 HBV.out)
  have R2' := Lib.hid (R2.out.keep hb3)
  have B3 := Lib.hid (below_on B2.out hb3)
  clear ho3 hb3 R2
  go_wp2_with fail
  go_ret3
  exact ⟨A, c, A', c', rfl, R2'.out, R3.out, B3.out⟩
set_option maxHeartbeats 1000000 in
theorem same_t (A B : Option Addr) (c d n m : Nat) (l : List Int) (w : World) (h1 : Rd w A c l) (h2 : Rd w B d l) (hn : l.length = n) (hm : l.length = m) : Calls Try.prog 6 #[.slice A n c, .slice B m d] w fun e w' => e = .returned (.bool true) ∧ Below w.heap.size w w' := by
  subst hn
  subst hm
  have hlen := h1.len
  have HR1 := Lib.hid h1
  have HR2 := Lib.hid h2
  clear h1 h2
  go_enter Try.func6, Try.ntmps6
  go_wp2_with fail
  go_loopw [5] (fun i wr => ∃ j : Nat, j ≤ l.length ∧ i = .int .i64 j ∧ Hid (Rd wr A c l) ∧ Hid (Rd wr B d l) ∧ Hid (Below w.heap.size w wr)) (fun i _ => l.length - (intOf i).toNat)
  case atStart => exact ⟨0, by omega, rfl, HR1, HR2, Lib.hid (Below.refl _ _)⟩
  case round =>
    obtain ⟨j, hj, rfl, H1, H2, HB⟩ := hrel
    by_cases h : j < l.length
    · obtain ⟨a1, rfl, hc1⟩ := H1.out.at_ h
      obtain ⟨a2, rfl, hc2⟩ := H2.out.at_ h
      generalize l[j]?.getD 0 = x at hc1 hc2
      go_wp2_with fail
      go_quiet (fail)
      go_wp2
      go_roundw
      case rel => exact ⟨j + 1, by omega, by go_num, Lib.hid (Rd.drewN H1.out _), Lib.hid (Rd.drewN H2.out _), Lib.hid (below_draws HB.out _)⟩
      case measure => simp [intOf]; omega
    · obtain rfl : j = l.length := by omega
      go_wp2
      go_ret
      exact ⟨rfl, HB.out⟩
end Go.Proofs.Ytdkhpjdhbkkfiaa
