/-
  The walk of OpNames: for every two numbers and every text it returns true; nothing that was there has changed.
-/
import Derived.Test.YtdkhpjdhbkkfiaaDoorOawake
import Derived.Test.YtdkhpjdhbkkfiaaDoorOparses
namespace Go.Proofs.YtdkhpjdhbkkfiaaDoor
open Go.RowKit
set_option linter.unusedSimpArgs false
set_option linter.unusedVariables false

/-- Each opcode's name is its own; none is empty. -/
theorem name_inj : ∀ i : Nat, i < 33 → ∀ j : Nat, j < 33 → ((opNm.getD i []) == (opNm.getD j [])) = (i == j) := by decide
theorem name_ne : ∀ i : Nat, i < 33 → (opNm.getD i []).isEmpty = false := by decide
theorem opS_list (j : Nat) (hj : j < 33) : (opS j).toList = opNm.getD j [] := by
  rw [opS, if_pos (by omega), Lib.toList_data]
  simp
theorem opS_eq (i j : Nat) (hi : i < 33) (hj : j < 33) : ((opS i).toList == (opS j).toList) = (i == j) := by
  rw [opS_list i hi, opS_list j hj, name_inj i hi j hj]
theorem opS_ne (i : Nat) (hi : i < 33) (s : ByteArray) (h : opS i = s) : s.toList.isEmpty = false := by
  subst h
  rw [opS_list i hi]
  exact name_ne i hi
theorem prs_v (s : ByteArray) (k : Int) (v : Bool) (w : World) (hw : GN w) (h : (v = true ∧ ∃ j : Nat, k = j ∧ j < 33 ∧ (∀ i : Nat, i < j → ((opS i).toList == s.toList) = false) ∧ ((opS j).toList == s.toList) = true) ∨ (v = false ∧ k = 0 ∧ ∀ j : Nat, j < 33 → ((opS j).toList == s.toList) = false)) :
    Calls Tryd.prog 20 #[.string s] w fun e w' => e = .returned (.tuple #[.int .u8 k, .bool v]) ∧ w = w' := by
  rcases h with ⟨rfl, j, rfl, hj, h1, h2⟩ | ⟨rfl, rfl, h⟩
  · exact prs_t s w hw j hj h1 h2
  · exact prs_f s w hw h
theorem prs_own (a : Int) (s : ByteArray) (w : World) (hw : GN w) (h0 : 0 ≤ a) (hk : opK a = true) (hs : opS a = s) : Calls Tryd.prog 20 #[.string s] w fun e w' => e = .returned (.tuple #[.int .u8 a, .bool true]) ∧ w = w' := by
  have h' : a < 33 := by simpa [opK] using hk
  obtain ⟨j, rfl⟩ : ∃ j : Nat, a = j := ⟨a.toNat, by omega⟩
  subst hs
  refine prs_v _ _ _ w hw (.inl ⟨rfl, j, rfl, by omega, fun i hi => ?_, ?_⟩)
  · rw [opS_eq i j (by omega) (by omega)]; simp; omega
  · simp
theorem op_big {n : Int} (h : opK n = false) : ¬ n < 33 := by simpa [opK] using h

set_option maxRecDepth 100000 in
set_option maxHeartbeats 2000000 in
theorem onames_kkf (a b k : Int) (s sa sb sk : ByteArray) (d : Bool) (w : World) (hw : GN w) (h0 : 0 ≤ a ∧ 0 ≤ b ∧ 0 ≤ k) (hs : s.size ≤ 9223372036854775807) (ha : opK a = true) (hb : opK b = true) (hsa : opS a = sa) (hsb : opS b = sb) (hd : (a == b) = d)
    (hsd : (sa.toList == sb.toList) = d) (hse : sa.toList.isEmpty = false) 
    (hp : ∀ w, GN w → Calls Tryd.prog 20 #[.string s] w fun e w' => e = .returned (.tuple #[.int .u8 k, .bool true]) ∧ w = w') (hkk : opK k = true) (hsk : opS k = sk) (hks : (sk.toList == s.toList) = true) :
    Calls Tryd.prog 5 #[.int .u8 a, .int .u8 b, .string s] w fun e w' => e = .returned (.bool true) ∧ Below w.heap.size w w' := by
  have HA := Lib.hid ha
  have HB := Lib.hid hb
  have HSA := Lib.hid hsa
  have HSB := Lib.hid hsb
  have H0 := Lib.hid h0
  have HP := Lib.hid hp
  have HK := Lib.hid hkk
  have HSK := Lib.hid hsk
  have S0 := Lib.hid ((Sx.start w).add fN hw)
  clear ha hb hsa hsb h0 hp hkk hsk hw
  go_enter Tryd.func5, Tryd.ntmps5
  go_wp2_with fail
  refine (oawake_any _ S0.out.2.1).mono ?_
  rintro e w1 ⟨rfl, hb1⟩
  have S1 := Lib.hid (S0.out.call hb1)
  clear hb1 S0
  go_wp2_with fail
  · go_ret
    exact ⟨rfl, S1.out.1⟩
  refine (known_v a _ _ HA.out).mono ?_
  rintro e w2 ⟨rfl, rfl⟩
  go_wp2_with fail
  refine (name_v a _ _ H0.out.1 S1.out.2.1 HSA.out).mono ?_
  rintro e w3 ⟨rfl, rfl⟩
  go_wp2_with fail
  refine (prs_own a _ _ S1.out.2.1 H0.out.1 HA.out HSA.out).mono ?_
  rintro e w4 ⟨rfl, rfl⟩
  go_wp2_with fail
  refine (name_v a _ _ H0.out.1 S1.out.2.1 HSA.out).mono ?_
  rintro e w5 ⟨rfl, rfl⟩
  go_wp2_with fail
  refine (known_v a _ _ HA.out).mono ?_
  rintro e w6 ⟨rfl, rfl⟩
  go_wp2_with fail
  refine (known_v b _ _ HB.out).mono ?_
  rintro e w7 ⟨rfl, rfl⟩
  go_wp2_with fail
  refine (name_v a _ _ H0.out.1 S1.out.2.1 HSA.out).mono ?_
  rintro e w8 ⟨rfl, rfl⟩
  go_wp2_with fail
  refine (name_v b _ _ H0.out.2.1 S1.out.2.1 HSB.out).mono ?_
  rintro e w9 ⟨rfl, rfl⟩
  go_wp2_with fail
  refine (HP.out _ S1.out.2.1).mono ?_
  rintro e w10 ⟨rfl, rfl⟩
  go_wp2_with fail
  refine (known_v k _ _ HK.out).mono ?_
  rintro e w11 ⟨rfl, rfl⟩
  go_wp2_with fail
  refine (name_v k _ _ H0.out.2.2 S1.out.2.1 HSK.out).mono ?_
  rintro e w12 ⟨rfl, rfl⟩
  go_wp2_with fail
  go_ret
  exact ⟨rfl, S1.out.1⟩

set_option maxRecDepth 100000 in
set_option maxHeartbeats 2000000 in
theorem onames_kkg (a b k : Int) (s sa sb sk : ByteArray) (d : Bool) (w : World) (hw : GN w) (h0 : 0 ≤ a ∧ 0 ≤ b ∧ 0 ≤ k) (hs : s.size ≤ 9223372036854775807) (ha : opK a = true) (hb : opK b = true) (hsa : opS a = sa) (hsb : opS b = sb) (hd : (a == b) = d)
    (hsd : (sa.toList == sb.toList) = d) (hse : sa.toList.isEmpty = false) 
    (hp : ∀ w, GN w → Calls Tryd.prog 20 #[.string s] w fun e w' => e = .returned (.tuple #[.int .u8 k, .bool false]) ∧ w = w') (hkk : k = 0) :
    Calls Tryd.prog 5 #[.int .u8 a, .int .u8 b, .string s] w fun e w' => e = .returned (.bool true) ∧ Below w.heap.size w w' := by
  have HA := Lib.hid ha
  have HB := Lib.hid hb
  have HSA := Lib.hid hsa
  have HSB := Lib.hid hsb
  have H0 := Lib.hid h0
  have HP := Lib.hid hp
  have HK := Lib.hid hkk
  have S0 := Lib.hid ((Sx.start w).add fN hw)
  clear ha hb hsa hsb h0 hp hw
  subst hkk
  go_enter Tryd.func5, Tryd.ntmps5
  go_wp2_with fail
  refine (oawake_any _ S0.out.2.1).mono ?_
  rintro e w1 ⟨rfl, hb1⟩
  have S1 := Lib.hid (S0.out.call hb1)
  clear hb1 S0
  go_wp2_with fail
  · go_ret
    exact ⟨rfl, S1.out.1⟩
  refine (known_v a _ _ HA.out).mono ?_
  rintro e w2 ⟨rfl, rfl⟩
  go_wp2_with fail
  refine (name_v a _ _ H0.out.1 S1.out.2.1 HSA.out).mono ?_
  rintro e w3 ⟨rfl, rfl⟩
  go_wp2_with fail
  refine (prs_own a _ _ S1.out.2.1 H0.out.1 HA.out HSA.out).mono ?_
  rintro e w4 ⟨rfl, rfl⟩
  go_wp2_with fail
  refine (name_v a _ _ H0.out.1 S1.out.2.1 HSA.out).mono ?_
  rintro e w5 ⟨rfl, rfl⟩
  go_wp2_with fail
  refine (known_v a _ _ HA.out).mono ?_
  rintro e w6 ⟨rfl, rfl⟩
  go_wp2_with fail
  refine (known_v b _ _ HB.out).mono ?_
  rintro e w7 ⟨rfl, rfl⟩
  go_wp2_with fail
  refine (name_v a _ _ H0.out.1 S1.out.2.1 HSA.out).mono ?_
  rintro e w8 ⟨rfl, rfl⟩
  go_wp2_with fail
  refine (name_v b _ _ H0.out.2.1 S1.out.2.1 HSB.out).mono ?_
  rintro e w9 ⟨rfl, rfl⟩
  go_wp2_with fail
  refine (HP.out _ S1.out.2.1).mono ?_
  rintro e w10 ⟨rfl, rfl⟩
  go_wp2_with fail
  go_ret
  exact ⟨rfl, S1.out.1⟩

set_option maxRecDepth 100000 in
set_option maxHeartbeats 2000000 in
theorem onames_knf (a b k : Int) (s sa sb sk : ByteArray) (d : Bool) (w : World) (hw : GN w) (h0 : 0 ≤ a ∧ 0 ≤ b ∧ 0 ≤ k) (hs : s.size ≤ 9223372036854775807) (ha : opK a = true) (hb : opK b = false) (hsa : opS a = sa) (hsb : opS b = sb) (hd : (a == b) = d)
    (hse : sa.toList.isEmpty = false) 
    (hp : ∀ w, GN w → Calls Tryd.prog 20 #[.string s] w fun e w' => e = .returned (.tuple #[.int .u8 k, .bool true]) ∧ w = w') (hkk : opK k = true) (hsk : opS k = sk) (hks : (sk.toList == s.toList) = true) :
    Calls Tryd.prog 5 #[.int .u8 a, .int .u8 b, .string s] w fun e w' => e = .returned (.bool true) ∧ Below w.heap.size w w' := by
  have HA := Lib.hid ha
  have HB := Lib.hid hb
  have HSA := Lib.hid hsa
  have HSB := Lib.hid hsb
  have H0 := Lib.hid h0
  have HP := Lib.hid hp
  have HK := Lib.hid hkk
  have HSK := Lib.hid hsk
  have S0 := Lib.hid ((Sx.start w).add fN hw)
  clear ha hb hsa hsb h0 hp hkk hsk hw
  go_enter Tryd.func5, Tryd.ntmps5
  go_wp2_with fail
  refine (oawake_any _ S0.out.2.1).mono ?_
  rintro e w1 ⟨rfl, hb1⟩
  have S1 := Lib.hid (S0.out.call hb1)
  clear hb1 S0
  go_wp2_with fail
  · go_ret
    exact ⟨rfl, S1.out.1⟩
  refine (known_v a _ _ HA.out).mono ?_
  rintro e w2 ⟨rfl, rfl⟩
  go_wp2_with fail
  refine (name_v a _ _ H0.out.1 S1.out.2.1 HSA.out).mono ?_
  rintro e w3 ⟨rfl, rfl⟩
  go_wp2_with fail
  refine (prs_own a _ _ S1.out.2.1 H0.out.1 HA.out HSA.out).mono ?_
  rintro e w4 ⟨rfl, rfl⟩
  go_wp2_with fail
  refine (name_v a _ _ H0.out.1 S1.out.2.1 HSA.out).mono ?_
  rintro e w5 ⟨rfl, rfl⟩
  go_wp2_with fail
  refine (known_v a _ _ HA.out).mono ?_
  rintro e w6 ⟨rfl, rfl⟩
  go_wp2_with fail
  refine (known_v b _ _ HB.out).mono ?_
  rintro e w7 ⟨rfl, rfl⟩
  go_wp2_with fail
  refine (HP.out _ S1.out.2.1).mono ?_
  rintro e w10 ⟨rfl, rfl⟩
  go_wp2_with fail
  refine (known_v k _ _ HK.out).mono ?_
  rintro e w11 ⟨rfl, rfl⟩
  go_wp2_with fail
  refine (name_v k _ _ H0.out.2.2 S1.out.2.1 HSK.out).mono ?_
  rintro e w12 ⟨rfl, rfl⟩
  go_wp2_with fail
  go_ret
  exact ⟨rfl, S1.out.1⟩

set_option maxRecDepth 100000 in
set_option maxHeartbeats 2000000 in
theorem onames_kng (a b k : Int) (s sa sb sk : ByteArray) (d : Bool) (w : World) (hw : GN w) (h0 : 0 ≤ a ∧ 0 ≤ b ∧ 0 ≤ k) (hs : s.size ≤ 9223372036854775807) (ha : opK a = true) (hb : opK b = false) (hsa : opS a = sa) (hsb : opS b = sb) (hd : (a == b) = d)
    (hse : sa.toList.isEmpty = false) 
    (hp : ∀ w, GN w → Calls Tryd.prog 20 #[.string s] w fun e w' => e = .returned (.tuple #[.int .u8 k, .bool false]) ∧ w = w') (hkk : k = 0) :
    Calls Tryd.prog 5 #[.int .u8 a, .int .u8 b, .string s] w fun e w' => e = .returned (.bool true) ∧ Below w.heap.size w w' := by
  have HA := Lib.hid ha
  have HB := Lib.hid hb
  have HSA := Lib.hid hsa
  have HSB := Lib.hid hsb
  have H0 := Lib.hid h0
  have HP := Lib.hid hp
  have HK := Lib.hid hkk
  have S0 := Lib.hid ((Sx.start w).add fN hw)
  clear ha hb hsa hsb h0 hp hw
  subst hkk
  go_enter Tryd.func5, Tryd.ntmps5
  go_wp2_with fail
  refine (oawake_any _ S0.out.2.1).mono ?_
  rintro e w1 ⟨rfl, hb1⟩
  have S1 := Lib.hid (S0.out.call hb1)
  clear hb1 S0
  go_wp2_with fail
  · go_ret
    exact ⟨rfl, S1.out.1⟩
  refine (known_v a _ _ HA.out).mono ?_
  rintro e w2 ⟨rfl, rfl⟩
  go_wp2_with fail
  refine (name_v a _ _ H0.out.1 S1.out.2.1 HSA.out).mono ?_
  rintro e w3 ⟨rfl, rfl⟩
  go_wp2_with fail
  refine (prs_own a _ _ S1.out.2.1 H0.out.1 HA.out HSA.out).mono ?_
  rintro e w4 ⟨rfl, rfl⟩
  go_wp2_with fail
  refine (name_v a _ _ H0.out.1 S1.out.2.1 HSA.out).mono ?_
  rintro e w5 ⟨rfl, rfl⟩
  go_wp2_with fail
  refine (known_v a _ _ HA.out).mono ?_
  rintro e w6 ⟨rfl, rfl⟩
  go_wp2_with fail
  refine (known_v b _ _ HB.out).mono ?_
  rintro e w7 ⟨rfl, rfl⟩
  go_wp2_with fail
  refine (HP.out _ S1.out.2.1).mono ?_
  rintro e w10 ⟨rfl, rfl⟩
  go_wp2_with fail
  go_ret
  exact ⟨rfl, S1.out.1⟩

set_option maxRecDepth 100000 in
set_option maxHeartbeats 2000000 in
theorem onames_nkf (a b k : Int) (s sa sb sk : ByteArray) (d : Bool) (w : World) (hw : GN w) (h0 : 0 ≤ a ∧ 0 ≤ b ∧ 0 ≤ k) (hs : s.size ≤ 9223372036854775807) (ha : opK a = false) (hb : opK b = true) (hsa : opS a = sa) (hsb : opS b = sb) (hd : (a == b) = d)
    (hl : opL a = false) (hg : opG a = false) (hm : opM a 0 0 = false) 
    (hp : ∀ w, GN w → Calls Tryd.prog 20 #[.string s] w fun e w' => e = .returned (.tuple #[.int .u8 k, .bool true]) ∧ w = w') (hkk : opK k = true) (hsk : opS k = sk) (hks : (sk.toList == s.toList) = true) :
    Calls Tryd.prog 5 #[.int .u8 a, .int .u8 b, .string s] w fun e w' => e = .returned (.bool true) ∧ Below w.heap.size w w' := by
  have HA := Lib.hid ha
  have HB := Lib.hid hb
  have HSA := Lib.hid hsa
  have HSB := Lib.hid hsb
  have H0 := Lib.hid h0
  have HP := Lib.hid hp
  have HK := Lib.hid hkk
  have HSK := Lib.hid hsk
  have HL := Lib.hid hl
  have HG := Lib.hid hg
  have HM := Lib.hid hm
  clear hl hg hm
  have S0 := Lib.hid ((Sx.start w).add fN hw)
  clear ha hb hsa hsb h0 hp hkk hsk hw
  go_enter Tryd.func5, Tryd.ntmps5
  go_wp2_with fail
  refine (oawake_any _ S0.out.2.1).mono ?_
  rintro e w1 ⟨rfl, hb1⟩
  have S1 := Lib.hid (S0.out.call hb1)
  clear hb1 S0
  go_wp2_with fail
  · go_ret
    exact ⟨rfl, S1.out.1⟩
  refine (known_v a _ _ HA.out).mono ?_
  rintro e w2 ⟨rfl, rfl⟩
  go_wp2_with fail
  refine (name_v a _ _ H0.out.1 S1.out.2.1 (opS_none (op_big HA.out))).mono ?_
  rintro e w3 ⟨rfl, rfl⟩
  go_wp2_with fail
  refine (omay_v a 0 0 _ _ HM.out).mono ?_
  rintro e w4 ⟨rfl, hb4⟩
  have S4 := Lib.hid (S1.out.call hb4)
  clear hb4 S1
  go_wp2_with fail
  refine (goes_v a _ _ HG.out).mono ?_
  rintro e w5 ⟨rfl, rfl⟩
  go_wp2_with fail
  refine (leads_v a _ _ HL.out).mono ?_
  rintro e w6 ⟨rfl, rfl⟩
  go_wp2_with fail
  refine (known_v a _ _ HA.out).mono ?_
  rintro e w7 ⟨rfl, rfl⟩
  go_wp2_with fail
  refine (HP.out _ S4.out.2.1).mono ?_
  rintro e w10 ⟨rfl, rfl⟩
  go_wp2_with fail
  refine (known_v k _ _ HK.out).mono ?_
  rintro e w11 ⟨rfl, rfl⟩
  go_wp2_with fail
  refine (name_v k _ _ H0.out.2.2 S4.out.2.1 HSK.out).mono ?_
  rintro e w12 ⟨rfl, rfl⟩
  go_wp2_with fail
  go_ret
  exact ⟨rfl, S4.out.1⟩

set_option maxRecDepth 100000 in
set_option maxHeartbeats 2000000 in
theorem onames_nkg (a b k : Int) (s sa sb sk : ByteArray) (d : Bool) (w : World) (hw : GN w) (h0 : 0 ≤ a ∧ 0 ≤ b ∧ 0 ≤ k) (hs : s.size ≤ 9223372036854775807) (ha : opK a = false) (hb : opK b = true) (hsa : opS a = sa) (hsb : opS b = sb) (hd : (a == b) = d)
    (hl : opL a = false) (hg : opG a = false) (hm : opM a 0 0 = false) 
    (hp : ∀ w, GN w → Calls Tryd.prog 20 #[.string s] w fun e w' => e = .returned (.tuple #[.int .u8 k, .bool false]) ∧ w = w') (hkk : k = 0) :
    Calls Tryd.prog 5 #[.int .u8 a, .int .u8 b, .string s] w fun e w' => e = .returned (.bool true) ∧ Below w.heap.size w w' := by
  have HA := Lib.hid ha
  have HB := Lib.hid hb
  have HSA := Lib.hid hsa
  have HSB := Lib.hid hsb
  have H0 := Lib.hid h0
  have HP := Lib.hid hp
  have HK := Lib.hid hkk
  have HL := Lib.hid hl
  have HG := Lib.hid hg
  have HM := Lib.hid hm
  clear hl hg hm
  have S0 := Lib.hid ((Sx.start w).add fN hw)
  clear ha hb hsa hsb h0 hp hw
  subst hkk
  go_enter Tryd.func5, Tryd.ntmps5
  go_wp2_with fail
  refine (oawake_any _ S0.out.2.1).mono ?_
  rintro e w1 ⟨rfl, hb1⟩
  have S1 := Lib.hid (S0.out.call hb1)
  clear hb1 S0
  go_wp2_with fail
  · go_ret
    exact ⟨rfl, S1.out.1⟩
  refine (known_v a _ _ HA.out).mono ?_
  rintro e w2 ⟨rfl, rfl⟩
  go_wp2_with fail
  refine (name_v a _ _ H0.out.1 S1.out.2.1 (opS_none (op_big HA.out))).mono ?_
  rintro e w3 ⟨rfl, rfl⟩
  go_wp2_with fail
  refine (omay_v a 0 0 _ _ HM.out).mono ?_
  rintro e w4 ⟨rfl, hb4⟩
  have S4 := Lib.hid (S1.out.call hb4)
  clear hb4 S1
  go_wp2_with fail
  refine (goes_v a _ _ HG.out).mono ?_
  rintro e w5 ⟨rfl, rfl⟩
  go_wp2_with fail
  refine (leads_v a _ _ HL.out).mono ?_
  rintro e w6 ⟨rfl, rfl⟩
  go_wp2_with fail
  refine (known_v a _ _ HA.out).mono ?_
  rintro e w7 ⟨rfl, rfl⟩
  go_wp2_with fail
  refine (HP.out _ S4.out.2.1).mono ?_
  rintro e w10 ⟨rfl, rfl⟩
  go_wp2_with fail
  go_ret
  exact ⟨rfl, S4.out.1⟩

set_option maxRecDepth 100000 in
set_option maxHeartbeats 2000000 in
theorem onames_nnf (a b k : Int) (s sa sb sk : ByteArray) (d : Bool) (w : World) (hw : GN w) (h0 : 0 ≤ a ∧ 0 ≤ b ∧ 0 ≤ k) (hs : s.size ≤ 9223372036854775807) (ha : opK a = false) (hb : opK b = false) (hsa : opS a = sa) (hsb : opS b = sb) (hd : (a == b) = d)
    (hl : opL a = false) (hg : opG a = false) (hm : opM a 0 0 = false) 
    (hp : ∀ w, GN w → Calls Tryd.prog 20 #[.string s] w fun e w' => e = .returned (.tuple #[.int .u8 k, .bool true]) ∧ w = w') (hkk : opK k = true) (hsk : opS k = sk) (hks : (sk.toList == s.toList) = true) :
    Calls Tryd.prog 5 #[.int .u8 a, .int .u8 b, .string s] w fun e w' => e = .returned (.bool true) ∧ Below w.heap.size w w' := by
  have HA := Lib.hid ha
  have HB := Lib.hid hb
  have HSA := Lib.hid hsa
  have HSB := Lib.hid hsb
  have H0 := Lib.hid h0
  have HP := Lib.hid hp
  have HK := Lib.hid hkk
  have HSK := Lib.hid hsk
  have HL := Lib.hid hl
  have HG := Lib.hid hg
  have HM := Lib.hid hm
  clear hl hg hm
  have S0 := Lib.hid ((Sx.start w).add fN hw)
  clear ha hb hsa hsb h0 hp hkk hsk hw
  go_enter Tryd.func5, Tryd.ntmps5
  go_wp2_with fail
  refine (oawake_any _ S0.out.2.1).mono ?_
  rintro e w1 ⟨rfl, hb1⟩
  have S1 := Lib.hid (S0.out.call hb1)
  clear hb1 S0
  go_wp2_with fail
  · go_ret
    exact ⟨rfl, S1.out.1⟩
  refine (known_v a _ _ HA.out).mono ?_
  rintro e w2 ⟨rfl, rfl⟩
  go_wp2_with fail
  refine (name_v a _ _ H0.out.1 S1.out.2.1 (opS_none (op_big HA.out))).mono ?_
  rintro e w3 ⟨rfl, rfl⟩
  go_wp2_with fail
  refine (omay_v a 0 0 _ _ HM.out).mono ?_
  rintro e w4 ⟨rfl, hb4⟩
  have S4 := Lib.hid (S1.out.call hb4)
  clear hb4 S1
  go_wp2_with fail
  refine (goes_v a _ _ HG.out).mono ?_
  rintro e w5 ⟨rfl, rfl⟩
  go_wp2_with fail
  refine (leads_v a _ _ HL.out).mono ?_
  rintro e w6 ⟨rfl, rfl⟩
  go_wp2_with fail
  refine (known_v a _ _ HA.out).mono ?_
  rintro e w7 ⟨rfl, rfl⟩
  go_wp2_with fail
  refine (HP.out _ S4.out.2.1).mono ?_
  rintro e w10 ⟨rfl, rfl⟩
  go_wp2_with fail
  refine (known_v k _ _ HK.out).mono ?_
  rintro e w11 ⟨rfl, rfl⟩
  go_wp2_with fail
  refine (name_v k _ _ H0.out.2.2 S4.out.2.1 HSK.out).mono ?_
  rintro e w12 ⟨rfl, rfl⟩
  go_wp2_with fail
  go_ret
  exact ⟨rfl, S4.out.1⟩

set_option maxRecDepth 100000 in
set_option maxHeartbeats 2000000 in
theorem onames_nng (a b k : Int) (s sa sb sk : ByteArray) (d : Bool) (w : World) (hw : GN w) (h0 : 0 ≤ a ∧ 0 ≤ b ∧ 0 ≤ k) (hs : s.size ≤ 9223372036854775807) (ha : opK a = false) (hb : opK b = false) (hsa : opS a = sa) (hsb : opS b = sb) (hd : (a == b) = d)
    (hl : opL a = false) (hg : opG a = false) (hm : opM a 0 0 = false) 
    (hp : ∀ w, GN w → Calls Tryd.prog 20 #[.string s] w fun e w' => e = .returned (.tuple #[.int .u8 k, .bool false]) ∧ w = w') (hkk : k = 0) :
    Calls Tryd.prog 5 #[.int .u8 a, .int .u8 b, .string s] w fun e w' => e = .returned (.bool true) ∧ Below w.heap.size w w' := by
  have HA := Lib.hid ha
  have HB := Lib.hid hb
  have HSA := Lib.hid hsa
  have HSB := Lib.hid hsb
  have H0 := Lib.hid h0
  have HP := Lib.hid hp
  have HK := Lib.hid hkk
  have HL := Lib.hid hl
  have HG := Lib.hid hg
  have HM := Lib.hid hm
  clear hl hg hm
  have S0 := Lib.hid ((Sx.start w).add fN hw)
  clear ha hb hsa hsb h0 hp hw
  subst hkk
  go_enter Tryd.func5, Tryd.ntmps5
  go_wp2_with fail
  refine (oawake_any _ S0.out.2.1).mono ?_
  rintro e w1 ⟨rfl, hb1⟩
  have S1 := Lib.hid (S0.out.call hb1)
  clear hb1 S0
  go_wp2_with fail
  · go_ret
    exact ⟨rfl, S1.out.1⟩
  refine (known_v a _ _ HA.out).mono ?_
  rintro e w2 ⟨rfl, rfl⟩
  go_wp2_with fail
  refine (name_v a _ _ H0.out.1 S1.out.2.1 (opS_none (op_big HA.out))).mono ?_
  rintro e w3 ⟨rfl, rfl⟩
  go_wp2_with fail
  refine (omay_v a 0 0 _ _ HM.out).mono ?_
  rintro e w4 ⟨rfl, hb4⟩
  have S4 := Lib.hid (S1.out.call hb4)
  clear hb4 S1
  go_wp2_with fail
  refine (goes_v a _ _ HG.out).mono ?_
  rintro e w5 ⟨rfl, rfl⟩
  go_wp2_with fail
  refine (leads_v a _ _ HL.out).mono ?_
  rintro e w6 ⟨rfl, rfl⟩
  go_wp2_with fail
  refine (known_v a _ _ HA.out).mono ?_
  rintro e w7 ⟨rfl, rfl⟩
  go_wp2_with fail
  refine (HP.out _ S4.out.2.1).mono ?_
  rintro e w10 ⟨rfl, rfl⟩
  go_wp2_with fail
  go_ret
  exact ⟨rfl, S4.out.1⟩
theorem onames_walk (a b : Int) (s : ByteArray) (w : World) (hw : GN w) (ha0 : 0 ≤ a) (hb0 : 0 ≤ b) (hs : s.size ≤ maxLen) : Calls Tryd.prog 5 #[.int .u8 a, .int .u8 b, .string s] w fun e w' => e = .returned (.bool true) ∧ Below w.heap.size w w' := by
  have hs' : s.size ≤ 9223372036854775807 := hs
  have hsd : opK a = true → opK b = true → ((opS a).toList == (opS b).toList) = (a == b) := by
    intro h1 h2
    have h1' : a < 33 := by simpa [opK] using h1
    have h2' : b < 33 := by simpa [opK] using h2
    obtain ⟨i, rfl⟩ : ∃ i : Nat, a = i := ⟨a.toNat, by omega⟩
    obtain ⟨j, rfl⟩ : ∃ j : Nat, b = j := ⟨b.toNat, by omega⟩
    rw [opS_eq i j (by omega) (by omega)]
    by_cases h : i = j
    · subst h; rw [beq_self_eq_true, beq_self_eq_true]
    · rw [beq_eq_false_iff_ne.2 h, beq_eq_false_iff_ne.2 (by omega)]
  have hse : opK a = true → (opS a).toList.isEmpty = false := by
    intro h1
    have h1' : a < 33 := by simpa [opK] using h1
    obtain ⟨i, rfl⟩ : ∃ i : Nat, a = i := ⟨a.toNat, by omega⟩
    exact opS_ne i (by omega) _ rfl
  have hl : opK a = false → opL a = false := by
    intro h; have := op_big h; simp [opL]; omega
  have hg : opK a = false → opG a = false := by
    intro h; simp [opG, h]
  have hm : opK a = false → opM a 0 0 = false := by
    intro h; have h1 : opHi a = -1 := by
      have := op_big h
      rw [opHi]; repeat' rw [if_neg (by omega)]
    simp [opM, h1]
  rcases prs_cases s with ⟨k, hk, hne, he⟩ | hne
  · have hP : ∀ w, GN w → Calls Tryd.prog 20 #[.string s] w fun e w' => e = .returned (.tuple #[.int .u8 k, .bool true]) ∧ w = w' := fun w hw => prs_t s w hw k hk hne he
    have hkk : opK k = true := by simp [opK]; omega
    cases h1 : opK a with
    | true =>
      cases h2 : opK b with
      | true => exact onames_kkf a b k s _ _ _ _ w hw ⟨ha0, hb0, by omega⟩ hs' h1 h2 rfl rfl rfl (hsd h1 h2) (hse h1) hP hkk rfl he
      | false => exact onames_knf a b k s _ _ _ _ w hw ⟨ha0, hb0, by omega⟩ hs' h1 h2 rfl rfl rfl (hse h1) hP hkk rfl he
    | false =>
      cases h2 : opK b with
      | true => exact onames_nkf a b k s _ _ _ _ w hw ⟨ha0, hb0, by omega⟩ hs' h1 h2 rfl rfl rfl (hl h1) (hg h1) (hm h1) hP hkk rfl he
      | false => exact onames_nnf a b k s _ _ _ _ w hw ⟨ha0, hb0, by omega⟩ hs' h1 h2 rfl rfl rfl (hl h1) (hg h1) (hm h1) hP hkk rfl he
  · have hP : ∀ w, GN w → Calls Tryd.prog 20 #[.string s] w fun e w' => e = .returned (.tuple #[.int .u8 0, .bool false]) ∧ w = w' := fun w hw => prs_f s w hw hne
    cases h1 : opK a with
    | true =>
      cases h2 : opK b with
      | true => exact onames_kkg a b 0 s _ _ s _ w hw ⟨ha0, hb0, by omega⟩ hs' h1 h2 rfl rfl rfl (hsd h1 h2) (hse h1) hP rfl
      | false => exact onames_kng a b 0 s _ _ s _ w hw ⟨ha0, hb0, by omega⟩ hs' h1 h2 rfl rfl rfl (hse h1) hP rfl
    | false =>
      cases h2 : opK b with
      | true => exact onames_nkg a b 0 s _ _ s _ w hw ⟨ha0, hb0, by omega⟩ hs' h1 h2 rfl rfl rfl (hl h1) (hg h1) (hm h1) hP rfl
      | false => exact onames_nng a b 0 s _ _ s _ w hw ⟨ha0, hb0, by omega⟩ hs' h1 h2 rfl rfl rfl (hl h1) (hg h1) (hm h1) hP rfl
end Go.Proofs.YtdkhpjdhbkkfiaaDoor
