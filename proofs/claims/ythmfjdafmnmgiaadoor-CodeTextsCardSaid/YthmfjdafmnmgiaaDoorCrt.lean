/-
  The text of code, by definition; what the reference's Digits and Text answer.
-/
import Derived.Test.YthmfjdafmnmgiaaDoorCrb
import Derived.Test.YthmfjdafmnmgiaaDoorOpn
namespace Go.Proofs.YthmfjdafmnmgiaaDoor
open Go.RowKit
set_option maxRecDepth 100000
set_option linter.unusedSimpArgs false
set_option linter.unusedVariables false

/-- A name's numbers. -/
def nmI (n : Int) : List Int := (opS n).data.toList.map fun u => (u.toNat : Int)
theorem nmI_str (n : Int) : strOfNums (nmI n) = opS n := by
  apply ByteArray.ext
  apply Array.ext'
  simp [strOfNums, nmI]
  have key : ∀ l : List UInt8, l.map ((fun n : Int => UInt8.ofNat n.toNat) ∘ fun u : UInt8 => (u.toNat : Int)) = l := by
    intro l
    induction l with
    | nil => rfl
    | cons u l ih => rw [List.map_cons, ih]; simp
  exact key _
theorem nmI_byt (n : Int) : Byt (nmI n) := by
  intro x hx
  obtain ⟨u, _, rfl⟩ := List.mem_map.1 hx
  have := u.toNat_lt
  omega
/-- A number's digits. -/
def dgT (n : Nat) : List Int := if n < 10 then [48 + (n : Int)] else dgT (n / 10) ++ [48 + (n : Int) % 10]
theorem dgT_lt {n : Nat} (h : n < 10) : dgT n = [48 + (n : Int)] := by rw [dgT, if_pos h]
theorem dgT_ge {n : Nat} (h : ¬ n < 10) : dgT n = dgT (n / 10) ++ [48 + (n : Int) % 10] := by rw [dgT, if_neg h]
theorem str_append (L M : List Int) : strOfNums L ++ strOfNums M = strOfNums (L ++ M) := by
  apply ByteArray.ext
  simp [strOfNums]
theorem str_size (L : List Int) : (strOfNums L).size = L.length := by simp [strOfNums, ByteArray.size]
theorem len_dg1 {n : Nat} (h : n < 10) : (dgT n).length = 1 := by rw [dgT_lt h]; rfl
theorem len_dgs {n : Nat} (h : ¬ n < 10) : (dgT n).length = (dgT (n / 10)).length + 1 := by rw [dgT_ge h, List.length_append]; rfl
theorem len_dgT (n : Nat) (hn : n ≤ 9999) : 1 ≤ (dgT n).length ∧ (dgT n).length ≤ 4 := by
  by_cases h1 : n < 10
  · have := len_dg1 h1; omega
  · have e1 := len_dgs h1
    by_cases h2 : n / 10 < 10
    · have := len_dg1 h2; omega
    · have e2 := len_dgs h2
      by_cases h3 : n / 10 / 10 < 10
      · have := len_dg1 h3; omega
      · have e3 := len_dgs h3
        have := len_dg1 (show n / 10 / 10 / 10 < 10 by omega)
        omega
theorem digits_any (n : Nat) : ∀ w : World, n ≤ 9999 → Calls Tryd.prog 27 #[.int .i64 n] w fun e w' => e = .returned (.string (strOfNums (dgT n))) ∧ Below w.heap.size w w' := by
  induction n using Nat.strongRecOn with
  | ind n ih =>
    intro w hn
    have hx : 0 ≤ 48 + (n : Int) % 10 ∧ 48 + (n : Int) % 10 < 256 := by omega
    have k1 : (convert 24 9 (.slice (some ⟨w.heap.size, 0, none⟩) 1 1)).run Tryd.prog (w.alloc (.cells #[.int .u8 (48 + (n : Int) % 10)] 5)) = .ok (.string (strOfNums [48 + (n : Int) % 10])) (w.alloc (.cells #[.int .u8 (48 + (n : Int) % 10)] 5)) :=
      rd_string (P := Tryd.prog) (rd_one w (48 + (n : Int) % 10) hx) 24 9 5 Tryd.underlying24 Tryd.underlying5 Tryd.underlying9
    obtain ⟨s, hs⟩ : ∃ s, strOfNums [48 + (n : Int) % 10] = s := ⟨_, rfl⟩
    rw [hs] at k1
    have HS := Lib.hid hs
    clear hs hx
    go_enter Tryd.func27, Tryd.ntmps27
    by_cases h : n < 10
    · have HN : Hid (strOfNums (dgT n) = s) := by rw [Hid, dgT_lt h, ← HS.out, show (n : Int) % 10 = n by omega]
      go_wp2_with fail
      go_ret
      exact ⟨by rw [HN.out]; rfl, new1⟩
    · have HN : Hid (strOfNums (dgT n) = strOfNums (dgT (n / 10)) ++ s) := by rw [Hid, dgT_ge h, ← HS.out, str_append]
      go_wp2_with fail
      rw [show (n : Int) / 10 = ((n / 10 : Nat) : Int) by omega]
      refine (ih (n / 10) (by omega) _ (by omega)).mono ?_
      rintro e w1 ⟨rfl, hb1⟩
      have HB1 := Lib.hid (below1 hb1)
      have hz1 : s.size = 1 := by rw [← HS.out, str_size]; rfl
      have hz2 : (strOfNums (dgT (n / 10))).size ≤ 4 := by rw [str_size]; exact (len_dgT _ (by omega)).2
      clear hb1 k1
      have hN := HN.out
      generalize strOfNums (dgT (n / 10)) = t at *
      go_wp2_with fail
      go_ret
      exact ⟨by rw [hN]; rfl, HB1.out⟩
/-- An instruction's line; code's text. -/
def lnT (x : Ins) : List Int := nmI x.1 ++ (if wdB x.1 then 32 :: dgT x.2.1.toNat else []) ++ [10]
def codT (L : List Ins) : List Int := L.flatMap lnT
theorem size_10 : (⟨#[10]⟩ : ByteArray).size = 1 := rfl
theorem size_32 : (⟨#[32]⟩ : ByteArray).size = 1 := rfl
theorem str_nil : strOfNums [] = ByteArray.empty := rfl
theorem opS_size (n : Int) : (opS n).size ≤ 5 := by
  rw [opS]
  split
  · rename_i h
    have key : ∀ i : Nat, i < 33 → (opNm.getD i []).length ≤ 5 := by decide
    have := key n.toNat (by omega)
    simpa [ByteArray.size] using this
  · decide
theorem codT_succ {L : List Ins} {j : Nat} (h : j < L.length) : codT (L.take (j + 1)) = codT (L.take j) ++ lnT L[j] := by
  rw [codT, List.take_add_one, List.getElem?_eq_getElem h, Option.toList_some, List.flatMap_append, ← codT, List.flatMap_cons, List.flatMap_nil, List.append_nil]
theorem size_app (s t : ByteArray) : (s ++ t).size = s.size + t.size := by simp
set_option maxRecDepth 100000 in
set_option maxHeartbeats 2000000 in
theorem r5text_t (A : Option Addr) (c m : Nat) (L : List Ins) (w : World) (hr : Ri w A c L) (hm : L.length = m) (hc : codM L = true) : Calls Tryd.prog 11 #[.slice A m c] w fun e w' => e = .returned (.tuple #[.string (strOfNums (codT L)), .int .i64 0]) ∧ Below w.heap.size w w' := by
  subst hm
  have hc' := hc
  simp only [codM, Bool.and_eq_true, decide_eq_true_eq] at hc'
  obtain ⟨⟨hl1, hl2⟩, hall⟩ := hc'
  have HALL := Lib.hid (List.all_eq_true.1 hall)
  have HC := Lib.hid hc
  clear hc hall
  go_enter Tryd.func11, Tryd.ntmps11
  go_wp2_with fail
  refine (r5may_any A c _ L _ hr rfl).mono ?_
  rintro e w1 ⟨rfl, hb1⟩
  rw [HC.out]
  have S1 := Lib.hid (((Sx.start w).add (fT A c L) hr).call hb1)
  clear hb1 hr
  go_wp2_with fail
  go_loopw [4, 5] (fun o i wr => ∃ (j : Nat) (t : ByteArray), j ≤ L.length ∧ i = .int .i64 j ∧ o = .string t ∧ t.size ≤ 11 * j ∧ Hid (strOfNums (codT (L.take j)) = t) ∧ Hid (Sx w wr [fT A c L])) (fun _ i _ => L.length - (intOf i).toNat)
  case atStart => exact ⟨0, _, by omega, rfl, rfl, Nat.le_refl _, rfl, S1⟩
  case round =>
    obtain ⟨j, t, hj, rfl, rfl, ht, HT, S2⟩ := hrel
    clear S1
    by_cases h1 : j < L.length
    · obtain ⟨ad, rfl, x0, x1, x2⟩ := S2.out.2.1.at_ h1
      obtain ⟨g1, g2, g3⟩ := opM_bd (HALL.out _ (List.getElem_mem h1))
      have hsz := opS_size L[j].1
      have HN : Hid (strOfNums (codT (L.take (j + 1))) = t ++ opS L[j].1 ++ strOfNums (if wdB L[j].1 then 32 :: dgT L[j].2.1.toNat else []) ++ strOfNums [10]) := by
        rw [Hid, codT_succ h1, lnT, ← HT.out, ← nmI_str, str_append, str_append, str_append, List.append_assoc, List.append_assoc, List.append_assoc]
      go_wp2_with fail
      refine (r4name_any _ _).mono ?_
      rintro e w3 ⟨rfl, rfl⟩
      generalize opS L[j].1 = nm at *
      go_wp2_with fail
      refine (wide_any _ _).mono ?_
      rintro e w3 ⟨rfl, rfl⟩
      cases hv : wdB L[j].1 with
      | true =>
        rw [hv, if_pos rfl] at HN
        have e0 : L[j].2.1 = ((L[j].2.1.toNat : Nat) : Int) := by omega
        have HE := Lib.hid e0
        have hk : L[j].2.1.toNat ≤ 9999 := by omega
        clear e0
        go_wp2_with fail
        rw [HE.out]
        refine (digits_any L[j].2.1.toNat _ hk).mono ?_
        rintro e w4 ⟨rfl, hb4⟩
        have S4 := Lib.hid (S2.out.call hb4)
        have hd : (strOfNums (dgT L[j].2.1.toNat)).size ≤ 4 := by rw [str_size]; exact (len_dgT _ hk).2
        have hN : strOfNums (codT (L.take (j + 1))) = t ++ nm ++ ⟨#[32]⟩ ++ strOfNums (dgT L[j].2.1.toNat) ++ ⟨#[10]⟩ := by
          rw [HN.out, show (32 : Int) :: dgT L[j].2.1.toNat = [32] ++ dgT L[j].2.1.toNat from rfl, ← str_append, ← ByteArray.append_assoc]
          rfl
        clear hb4 HN S2 x0 x1 x2 hk
        generalize strOfNums (dgT L[j].2.1.toNat) = dg at *
        go_wp2_with fail
        go_roundw
        case rel => exact ⟨j + 1, _, by omega, by go_num, rfl, by rw [size_app, size_app, size_app, size_app, size_10, size_32]; omega, Lib.hid hN, S4⟩
        case measure => simp [intOf]; omega
      | false =>
        rw [hv, if_neg (by decide)] at HN
        have hN : strOfNums (codT (L.take (j + 1))) = t ++ nm ++ ⟨#[10]⟩ := by
          rw [HN.out, str_nil, ByteArray.append_empty]
          rfl
        go_wp2_with fail
        go_roundw
        case rel => exact ⟨j + 1, _, by omega, by go_num, rfl, by rw [size_app, size_app, size_10]; omega, Lib.hid hN, S2⟩
        case measure => simp [intOf]; omega
    · obtain rfl : j = L.length := by omega
      have hN := HT.out
      rw [List.take_length] at hN
      have HN := Lib.hid hN
      clear hN HT
      go_wp2_with fail
      go_ret2
      exact ⟨by rw [HN.out]; rfl, S2.out.1⟩
theorem r5text_f (A : Option Addr) (c m : Nat) (L : List Ins) (w : World) (hr : Ri w A c L) (hm : L.length = m) (hc : codM L = false) : Calls Tryd.prog 11 #[.slice A m c] w fun e w' => e = .returned (.tuple #[.string ⟨#[]⟩, .int .i64 40]) ∧ Below w.heap.size w w' := by
  subst hm
  have HC := Lib.hid hc
  clear hc
  go_enter Tryd.func11, Tryd.ntmps11
  go_wp2_with fail
  refine (r5may_any A c _ L _ hr rfl).mono ?_
  rintro e w1 ⟨rfl, hb1⟩
  rw [HC.out]
  go_wp2_with fail
  go_ret2
  exact ⟨rfl, hb1⟩
end Go.Proofs.YthmfjdafmnmgiaaDoor
