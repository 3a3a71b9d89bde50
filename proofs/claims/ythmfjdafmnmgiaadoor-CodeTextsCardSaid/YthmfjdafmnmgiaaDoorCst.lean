/-
  Layer 5: what of Go's library package code leans on (numbers as texts and back, a text cut at a byte), in this text's own words, over the kit's contracts.
-/
import Derived.Test.YthmfjdafmnmgiaaDoorSh
import Derived.Test.YthmfjdafmnmgiaaDoorCmt
import Derived.Test.YthmfjdafmnmgiaaDoorCp
import Derived.Lib.AtoiTie
import Derived.Lib.AtoiErrMem
namespace Go.Proofs.YthmfjdafmnmgiaaDoor
open Go.RowKit
set_option maxRecDepth 100000
set_option linter.unusedSimpArgs false
set_option linter.unusedVariables false

/-- Numbers as bytes. -/
def u8L (S : List Int) : List UInt8 := S.map fun n => UInt8.ofNat n.toNat
theorem u8L_str (S : List Int) : (strOfNums S).data.toList = u8L S := rfl
theorem str_u8L (S : List Int) : (⟨(u8L S).toArray⟩ : ByteArray) = strOfNums S := rfl
theorem u8L_app (S T : List Int) : u8L (S ++ T) = u8L S ++ u8L T := by simp [u8L]
theorem dig_u8 (n : Nat) : Lib.decDigits n = u8L (dgT n) := by
  induction n using Nat.strongRecOn with
  | ind n ih =>
    rw [Lib.decDigits]
    split
    · rename_i h
      rw [dgT_lt h]
      simp only [u8L, List.map_cons, List.map_nil]
      rw [show (48 + (n : Int)).toNat = 48 + n by omega]
    · rename_i h
      rw [ih (n / 10) (by omega), dgT_ge h, u8L_app]
      simp only [u8L, List.map_cons, List.map_nil]
      rw [show (48 + (n : Int) % 10).toNat = 48 + n % 10 by omega]
theorem u8_nat {c : Int} (h : 0 ≤ c ∧ c < 256) : (UInt8.ofNat c.toNat).toNat = c.toNat := by
  simp
  omega
theorem dec_u8 : ∀ (S : List Int) (acc : Nat), dgA S = true → Lib.decFrom acc (u8L S) = some (S.foldl (fun n c => 10 * n + (c - 48)) (acc : Int)).toNat ∧ 0 ≤ S.foldl (fun n c => 10 * n + (c - 48)) (acc : Int)
  | [], acc, _ => ⟨by simp [u8L, Lib.decFrom], by simp⟩
  | c :: S, acc, h => by
    rw [dgA, List.all_cons, Bool.and_eq_true, Bool.and_eq_true, decide_eq_true_eq, decide_eq_true_eq] at h
    obtain ⟨⟨h1, h2⟩, h3⟩ := h
    have hn := u8_nat (c := c) (by omega)
    have key := dec_u8 S (acc * 10 + (c.toNat - 48)) h3
    rw [show (((acc * 10 + (c.toNat - 48) : Nat)) : Int) = 10 * (acc : Int) + (c - 48) by omega] at key
    rw [List.foldl_cons]
    refine ⟨?_, key.2⟩
    rw [← key.1]
    show Lib.decFrom acc (UInt8.ofNat c.toNat :: u8L S) = _
    rw [Lib.decFrom, Lib.digitVal, hn, if_pos (by omega)]
theorem dgT_ne (n : Nat) : dgT n ≠ [] := by
  intro h
  by_cases hn : n < 10
  · rw [dgT_lt hn] at h; cases h
  · rw [dgT_ge hn] at h
    exact absurd h (by simp)
/-- Atoi's number, of whatever bytes. -/
def atV (l : List UInt8) : Int := match Lib.atoiAll l with
  | .ok v => v
  | .range => Lib.atoiSat l
  | _ => 0
theorem atV_nil : atV [] = 0 := rfl
theorem atV_dig {n : Nat} (h : n ≤ 9999) : atV (u8L (dgT n)) = n := by
  have hd := dgT_dig n
  have hl := len_dgT n h
  have h1 := (dec_u8 (dgT n) 0 hd).1
  have h2 := vlT_dgT n
  have e : Lib.atoiAll (u8L (dgT n)) = .ok (n : Int) := by
    rw [Lib.atoiAll_short _ (by rw [u8L, List.length_map]; omega)]
    obtain ⟨c, r, hc⟩ : ∃ c r, dgT n = c :: r := by
      cases hx : dgT n with
      | nil => exact absurd hx (dgT_ne n)
      | cons c r => exact ⟨c, r, rfl⟩
    have hcd : 48 ≤ c ∧ c ≤ 57 := by
      rw [hc, dgA, List.all_cons, Bool.and_eq_true, Bool.and_eq_true, decide_eq_true_eq, decide_eq_true_eq] at hd
      exact hd.1
    have hcn := u8_nat (c := c) (by omega)
    have h45 : (UInt8.ofNat c.toNat == 45) = false := by
      rw [beq_eq_false_iff_ne]
      intro e
      have := congrArg UInt8.toNat e
      rw [hcn] at this
      simp at this
      omega
    have h43 : (UInt8.ofNat c.toNat == 43) = false := by
      rw [beq_eq_false_iff_ne]
      intro e
      have := congrArg UInt8.toNat e
      rw [hcn] at this
      simp at this
      omega
    have hat : Lib.atoi (u8L (dgT n)) = (Lib.decNat (u8L (dgT n))).map fun (m : Nat) => (m : Int) := by
      rw [hc]
      show Lib.atoi (UInt8.ofNat c.toNat :: u8L r) = _
      rw [Lib.atoi, h45, h43]
      rfl
    have hdn : Lib.decNat (u8L (dgT n)) = some n := by
      rw [Lib.decNat, if_neg (by rw [hc]; simp [u8L]), h1]
      have h2' : (dgT n).foldl (fun n c => 10 * n + (c - 48)) 0 = (n : Int) := h2
      rw [show ((0 : Nat) : Int) = 0 from rfl, h2']
      simp
    rw [hat, hdn]
    rfl
  rw [atV, e]
theorem atV_bd (l : List UInt8) : -9223372036854775808 ≤ atV l ∧ atV l ≤ 9223372036854775807 := by
  unfold atV
  split
  · rename_i h; exact Lib.atoiAll_bounds h
  · unfold Lib.atoiSat; split <;> omega
  · omega

/-- The library's table of powers, as it reads; the two variables that hold errors. -/
def T10 (w : World) : Prop := ∀ nm : String, Tryd.prog.globalNamed nm = some 4 → w.var? Tryd.prog nm = some (Lib.pow10Tab.map fun z => Value.int .u64 z).toArray
theorem T10.keep {w w' : World} (h : T10 w) (hb : Below w.heap.size w w') : T10 w' := by
  intro nm hnm
  have h1 := h nm hnm
  unfold World.var? at h1 ⊢
  rw [hnm] at h1 ⊢
  simp only [Option.bind_some] at h1 ⊢
  have hlt : 4 < w.heap.size := by
    rcases Nat.lt_or_ge 4 w.heap.size with h' | h'
    · exact h'
    · rw [Array.getElem?_eq_none h'] at h1; cases h1
  rw [hb.block _ hlt]
  exact h1
def IfV (v : Value) : Prop := v = .nilIface ∨ ∃ te pe, v = .iface te pe
def EV (w : World) : Prop := (∃ v, w.cell? ⟨2, 0, none⟩ = some v ∧ IfV v) ∧ ∃ v, w.cell? ⟨3, 0, none⟩ = some v ∧ IfV v
theorem EV.keep {w w' : World} (h : EV w) (hb : Below w.heap.size w w') : EV w' := by
  obtain ⟨⟨v, h1, h2⟩, u, h3, h4⟩ := h
  exact ⟨⟨v, (hb.cell (cell_lt h1)).trans h1, h2⟩, u, (hb.cell (cell_lt h3)).trans h3, h4⟩
/-- What Text leans on; what Parse leans on. -/
abbrev fN10 : Fct := ⟨fun w => GN w ∧ T10 w, fun _ _ h hb => ⟨h.1.keep hb, h.2.keep hb⟩⟩
abbrev fAll : Fct := ⟨fun w => GN w ∧ T10 w ∧ EV w, fun _ _ h hb => ⟨h.1.keep hb, h.2.1.keep hb, h.2.2.keep hb⟩⟩

theorem grow_below (w : World) (k : Nat) (os : Array Obj) : Below w.heap.size w (Sort.grow (w.drewN k) os) := by
  refine ⟨rfl, rfl, rfl, ?_, fun i hi => ?_⟩
  · show w.heap.size ≤ (w.heap ++ os).size
    rw [Array.size_append]; omega
  · show (w.heap ++ os)[i]? = w.heap[i]?
    rw [Array.getElem?_append_left hi]
theorem itoa_v (n : Nat) (hn : n ≤ 9999) (s : ByteArray) (hs : strOfNums (dgT n) = s) (w : World) (hT : T10 w) : Calls Tryd.prog 42 #[.int .i64 n] w fun e w' => e = .returned (.string s) ∧ Below w.heap.size w w' := by
  refine (Any.strconv_Itoa Tryd.laysM171 n (by omega) (by omega) w (hT _ (by kernel_rfl))).mono ?_
  rintro e w' ⟨rfl, k, os, rfl⟩
  refine ⟨?_, grow_below _ _ _⟩
  rw [Lib.itoa, if_neg (by omega), Int.toNat_natCast, dig_u8, str_u8L, hs]
theorem atoi_v (s : ByteArray) (l : List UInt8) (hl : s.data.toList = l) (a : Int) (ha : atV l = a) (hs : s.size ≤ 1000000) (w : World) (hE : EV w) : Calls Tryd.prog 50 #[.string s] w fun e w' => (∃ ev, e = .returned (.tuple #[.int .i64 a, ev])) ∧ Below w.heap.size w w' := by
  obtain ⟨⟨v, h1, h2⟩, u, h3, h4⟩ := hE
  subst hl
  unfold atV at ha
  cases h : Lib.atoiAll s.data.toList
  · rename_i x
    rw [h] at ha
    subst ha
    refine (Tryd.strconv_Atoi_ok s (by omega) x h w).mono ?_
    rintro e w' ⟨rfl, h5⟩
    refine ⟨⟨_, rfl⟩, ?_⟩
    rcases h5 with rfl | ⟨t, rfl⟩
    · exact Below.refl _ _
    · exact Lib.bytesWorld_below _ _ _
  · rw [h] at ha
    subst ha
    refine (Any.strconv_Atoi_syntax Tryd.laysC172 s (by omega) h v w h1 h2).mono ?_
    rintro e w' ⟨N, rfl, _, _, hb⟩
    exact ⟨⟨_, rfl⟩, hb⟩
  · rw [h] at ha
    subst ha
    refine (Tryd.strconv_Atoi_range s (by omega) h u w h3 h4).mono ?_
    rintro e w' ⟨N, rfl, _, _, hb⟩
    exact ⟨⟨_, rfl⟩, hb⟩

/-- How many letters stand ahead of the first c. -/
def ixK (S : List Int) (c : Int) : Nat := (S.takeWhile fun x => x != c).length
theorem ixK_sp (S : List Int) : spK S = ixK S 32 := rfl
theorem ix_u8 {c : Int} (hc : 0 ≤ c ∧ c < 256) : ∀ {S : List Int}, Byt S → Lib.indexByte (u8L S) (UInt8.ofNat c.toNat) = if ixK S c < S.length then (ixK S c : Int) else -1
  | [], _ => rfl
  | x :: S, hb => by
    have hx := hb x (List.mem_cons_self ..)
    have ih := ix_u8 hc (S := S) (fun y hy => hb y (List.mem_cons_of_mem _ hy))
    show Lib.indexByte (UInt8.ofNat x.toNat :: u8L S) _ = _
    rw [Lib.indexByte, ih]
    by_cases e : x = c
    · subst e
      rw [if_pos (by simp)]
      simp [ixK]
    · have hne : (UInt8.ofNat x.toNat == UInt8.ofNat c.toNat) = false := by
        rw [beq_eq_false_iff_ne]
        intro e2
        have := congrArg UInt8.toNat e2
        rw [u8_nat hx, u8_nat hc] at this
        omega
      have hk : ixK (x :: S) c = ixK S c + 1 := by simp [ixK, e]
      rw [hne, if_neg (by decide), hk, List.length_cons]
      by_cases hlt : ixK S c < S.length
      · rw [if_pos hlt, if_pos (show ixK S c + 1 < S.length + 1 by omega)]
        rw [if_neg (by simp <;> omega)]
        rfl
      · rw [if_neg hlt, if_neg (show ¬ ixK S c + 1 < S.length + 1 by omega)]
        rfl
theorem cut_in (T : List Int) (hb : Byt T) (t : ByteArray) (ht : strOfNums T = t) (hl : T.length ≤ 1000000) (a b : ByteArray) (v : Bool) (ha : strOfNums (T.take (spK T)) = a) (hb2 : strOfNums (T.drop (spK T + 1)) = b) (hv : decide (spK T < T.length) = v) (w : World) : Calls Tryd.prog 62 #[.string t, .string ⟨#[32]⟩] w fun e w' => e = .returned (.tuple #[.string a, .string b, .bool v]) ∧ Below w.heap.size w w' := by
  have hsz : t.size = T.length := by rw [← ht, strOfNums_size]
  have hI := ix_u8 (c := 32) (by omega) hb
  rw [← ixK_sp] at hI
  have hc : (32 : UInt8) = UInt8.ofNat (32 : Int).toNat := by decide
  have K : ∀ w, Hid (Calls Tryd.prog 69 #[.string t, .string ⟨#[32]⟩] w fun e w' => e = .returned (.int .i64 (if spK T < T.length then (spK T : Int) else -1)) ∧ w' = w) := by
    intro w
    have := Tryd.stringslite_Index_one t 32 w
    rw [← ht, u8L_str, hc, hI] at this
    rw [← ht]
    exact this
  have hT := Lib.hid ht
  have HA := Lib.hid ha
  have HB := Lib.hid hb2
  have e1 : Hid (t.extract 0 (spK T) = a) := by rw [Hid, ← ht, str_part, List.drop_zero, Nat.sub_zero, ha]
  have e2 : Hid (t.extract (spK T + 1) T.length = b) := by
    rw [Hid, ← ht, str_part, ← hb2, List.take_of_length_le (by rw [List.length_drop]; omega)]
  clear ht hI hc ha hb2
  cases v with
  | true =>
    have hlt := of_decide_eq_true hv
    have K' := fun w => Lib.hid (K w).out
    rw [if_pos hlt] at K'
    clear K hv
    generalize spK T = k at *
    have E1 := e1.out
    have E2 := e2.out
    go_enter Tryd.func62, Tryd.ntmps62
    go_wp2_with fail
    refine (K' _).out.mono ?_
    rintro e w1 ⟨rfl, rfl⟩
    go_wp2_with fail
    go_quiet (fail)
    go_wp2_with fail
    go_ret3
    exact ⟨rfl, below_draws (Below.refl _ _) _⟩
  | false =>
    have hge := of_decide_eq_false hv
    have K' := fun w => Lib.hid (K w).out
    rw [if_neg hge] at K'
    have hk : spK T = T.length := by have := spK_le T; omega
    have EA : Hid (t = a) := by rw [Hid, ← HA.out, hk, List.take_length, hT.out]
    have EB : Hid (b = ⟨#[]⟩) := by rw [Hid, ← HB.out, hk, List.drop_of_length_le (by omega)]; rfl
    clear K hv hk hge e1 e2 HA HB
    go_enter Tryd.func62, Tryd.ntmps62
    go_wp2_with fail
    refine (K' _).out.mono ?_
    rintro e w1 ⟨rfl, rfl⟩
    go_wp2_with fail
    go_ret3
    exact ⟨by rw [← EA.out, EB.out]; rfl, Below.refl _ _⟩
theorem cut_v (T : List Int) (hb : Byt T) (t : ByteArray) (ht : strOfNums T = t) (hl : T.length ≤ 1000000) (a b : ByteArray) (v : Bool) (ha : strOfNums (T.take (spK T)) = a) (hb2 : strOfNums (T.drop (spK T + 1)) = b) (hv : decide (spK T < T.length) = v) (w : World) : Calls Tryd.prog 47 #[.string t, .string ⟨#[32]⟩] w fun e w' => e = .returned (.tuple #[.string a, .string b, .bool v]) ∧ Below w.heap.size w w' := by
  have K := fun w => Lib.hid (cut_in T hb t ht hl a b v ha hb2 hv w)
  clear ht ha hb2 hv
  go_enter Tryd.func47, Tryd.ntmps47
  go_wp2_with fail
  refine (K _).out.mono ?_
  rintro e w1 ⟨rfl, hb1⟩
  have HB := Lib.hid hb1
  clear hb1
  go_wp2_with fail
  go_ret3
  exact ⟨rfl, HB.out⟩
theorem trim_t (W : List Int) (t s : ByteArray) (ht : strOfNums (W ++ [10]) = t) (hs : strOfNums W = s) (hl : W.length ≤ 1000000) (w : World) : Calls Tryd.prog 48 #[.string t, .string ⟨#[10]⟩] w fun e w' => e = .returned (.string s) ∧ w' = w := by
  have hsz : t.size = W.length + 1 := by rw [← ht, strOfNums_size, List.length_append]; rfl
  have := Tryd.strings_TrimSuffix t ⟨#[10]⟩ w (by omega)
  have e : (⟨(Lib.trimSuffix t.data.toList (⟨#[10]⟩ : ByteArray).data.toList).toArray⟩ : ByteArray) = s := by
    rw [← ht, u8L_str, u8L_app, ← hs, ← str_u8L]
    have h10 : u8L [10] = [10] := by decide
    have hsuf : Lib.hasSuffix (u8L W ++ [10]) [10] = true := by
      rw [Lib.hasSuffix, List.isSuffixOf_iff_suffix]
      exact List.suffix_append _ _
    show (⟨(Lib.trimSuffix (u8L W ++ u8L [10]) [10]).toArray⟩ : ByteArray) = _
    rw [h10, Lib.trimSuffix, if_pos hsuf]
    simp
  rwa [e] at this
theorem trim_f (W : List Int) (hb : Byt W) (hne : ∀ c ∈ W, c ≠ 10) (t : ByteArray) (ht : strOfNums W = t) (hl : W.length ≤ 1000000) (w : World) : Calls Tryd.prog 48 #[.string t, .string ⟨#[10]⟩] w fun e w' => e = .returned (.string t) ∧ w' = w := by
  have hsz : t.size = W.length := by rw [← ht, strOfNums_size]
  have := Tryd.strings_TrimSuffix t ⟨#[10]⟩ w (by omega)
  have e : (⟨(Lib.trimSuffix t.data.toList (⟨#[10]⟩ : ByteArray).data.toList).toArray⟩ : ByteArray) = t := by
    have hsuf : Lib.hasSuffix (u8L W) [10] = false := by
      cases h : Lib.hasSuffix (u8L W) [10] with
      | false => rfl
      | true =>
        rw [Lib.hasSuffix, List.isSuffixOf_iff_suffix] at h
        obtain ⟨r, hr⟩ := h
        have hm : (10 : UInt8) ∈ u8L W := by rw [← hr]; simp
        obtain ⟨c, hc, he⟩ := List.mem_map.1 hm
        have h2 := u8_nat (hb c hc)
        rw [he] at h2
        have := hb c hc
        exact absurd (show c = 10 by simp at h2; omega) (hne c hc)
    rw [← ht, u8L_str]
    show (⟨(Lib.trimSuffix (u8L W) [10]).toArray⟩ : ByteArray) = _
    rw [Lib.trimSuffix, hsuf]
    rfl
  rwa [e] at this
end Go.Proofs.YthmfjdafmnmgiaaDoor
