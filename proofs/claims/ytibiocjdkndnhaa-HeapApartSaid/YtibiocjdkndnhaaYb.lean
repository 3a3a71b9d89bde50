/-
  Layer 15: the program's heap in memory; made, array, word, At, Put, Len.
-/
import Derived.Test.YtibiocjdkndnhaaYa
import Derived.LaidEqlPtr
namespace Go.Proofs.Ytibiocjdkndnhaa
open Go.RowKit
set_option maxRecDepth 100000
set_option linter.unusedSimpArgs false
set_option linter.unusedVariables false

/-- The row's slices lie one behind the other in block g. -/
def Sl15 (g : Nat) (Z : List (List Int)) (P : List Value) : Prop := P.length = Z.length ∧ ∀ (k : Nat) (z : List Int), Z[k]? = some z → ∃ a, P[k]? = some (Value.slice a z.length z.length) ∧ (0 < z.length → a = some ⟨g, off15 Z k, none⟩)
/-- The heap at block B: its words in block g, its arrays' row in block ra. -/
structure Hq15 (w : World) (B g ra c R : Nat) (Z : List (List Int)) (la : Addr) (P : List Value) : Prop where
  box : w.heap[B]? = some (.cells #[.pointer (some ⟨B, 0, none⟩), .slice (some ⟨ra, 0, none⟩) Z.length c, .slice (some la) (R - us15 Z) (R - us15 Z)] 45 (0, 0))
  row : w.ownsRow 0 43 1 (.slice (some ⟨ra, 0, none⟩) Z.length c) Z.length P
  sl : Sl15 g Z P
  la : 0 < R - us15 Z → la = ⟨g, us15 Z, none⟩
  wd : Wd15 w g (wz15 R Z)
  room : us15 Z ≤ R
  big : R ≤ 1024
  zero : Z[0]? = some []
section
variable {w w' : World} {B g ra c R : Nat} {Z : List (List Int)} {la : Addr} {P : List Value} {X : Nat → Prop}
theorem Hq15.fr (h : Hq15 w B g ra c R Z la P) (hf : Fr11 X w w') (h1 : ¬ X B) (h2 : ¬ X g) (h3 : ¬ X ra) : Hq15 w' B g ra c R Z la P :=
  ⟨(hf.block _ (Array.getElem?_eq_some_iff.1 h.box).1 h1).trans h.box, hf.own h.row (fun j hj => by simp [Value.ownBlock] at hj; subst hj; exact h3), h.sl, h.la, h.wd.fr hf h2, h.room, h.big, h.zero⟩
theorem Hq15.c0 (h : Hq15 w B g ra c R Z la P) : w.cell? ⟨B, 0, none⟩ = some (.pointer (some ⟨B, 0, none⟩)) := by simp [World.cell?, h.box]
theorem Hq15.c1 (h : Hq15 w B g ra c R Z la P) : w.cell? ⟨B, 1, none⟩ = some (.slice (some ⟨ra, 0, none⟩) Z.length c) := by simp [World.cell?, h.box]
theorem Hq15.c2 (h : Hq15 w B g ra c R Z la P) : w.cell? ⟨B, 2, none⟩ = some (.slice (some la) (R - us15 Z) (R - us15 Z)) := by simp [World.cell?, h.box]
theorem Hq15.fz (h : Hq15 w B g ra c R Z la P) (i : Nat) : w.frozen? ⟨B, i, none⟩ = false := frozen_of_row w B i _ _ h.box
theorem Hq15.at_ (h : Hq15 w B g ra c R Z la P) {k : Nat} {z : List Int} (hk : Z[k]? = some z) : ∃ a, w.cell? ⟨ra, k, none⟩ = some (.slice a z.length z.length) ∧ (0 < z.length → a = some ⟨g, off15 Z k, none⟩) := by
  obtain ⟨a, h1, h2⟩ := h.sl.2 k z hk
  have := h.row.cells rfl k _ h1
  rw [as15, Nat.zero_add] at this
  exact ⟨a, this, h2⟩
end
theorem peq15 (a : Addr) (w : World) : (binOp BinOp.eql 23 (.pointer (some a)) (.pointer (some a))).run Try.prog w = .ok (.bool true) w := by
  have hinfo : ∃ j, Try.prog.info? 45 = some j := ⟨_, rfl⟩
  obtain ⟨j, hj⟩ := hinfo
  exact run_eql_ptr_same w a Try.underlying23 hj
theorem pen15 (a : Addr) (w : World) : (binOp BinOp.eql 23 (.pointer none) (.pointer (some a))).run Try.prog w = .ok (.bool false) w := by kernel_rfl
theorem made15_v (v : Value) (m : Bool) (w : World) (h : (m = true ∧ ∃ B, v = .pointer (some ⟨B, 0, none⟩) ∧ w.cell? ⟨B, 0, none⟩ = some (.pointer (some ⟨B, 0, none⟩))) ∨ (m = false ∧ (v = .pointer none ∨ ∃ B, v = .pointer (some ⟨B, 0, none⟩) ∧ w.cell? ⟨B, 0, none⟩ = some (.pointer none)))) :
    Calls Try.prog 20 #[v] w fun e w' => e = .returned (.bool m) ∧ w' = w := by
  rcases h with ⟨rfl, B, rfl, hc⟩ | ⟨rfl, rfl | ⟨B, rfl, hc⟩⟩
  · have hpe := peq15 ⟨B, 0, none⟩
    go_enter Try.func20, Try.ntmps20
    go_wp2_with fail
    go_ret
    exact ⟨rfl, rfl⟩
  · go_enter Try.func20, Try.ntmps20
    go_wp2_with fail
    go_ret
    exact ⟨rfl, rfl⟩
  · have hpn := pen15 ⟨B, 0, none⟩
    go_enter Try.func20, Try.ntmps20
    go_wp2_with fail
    go_ret
    exact ⟨rfl, rfl⟩
/-- A heap that New did not return. -/
def No15 (w : World) (v : Value) : Prop := v = .pointer none ∨ ∃ B, v = .pointer (some ⟨B, 0, none⟩) ∧ w.cell? ⟨B, 0, none⟩ = some (.pointer none)
theorem arrayN_v (v : Value) (r : Int) (w : World) (h : No15 w v) : Calls Try.prog 23 #[v, .int .i64 r] w fun e w' => e = .returned (.tuple #[.slice none 0 0, .bool false]) ∧ w' = w := by
  have HM := Lib.hid (made15_v v false w (.inr ⟨rfl, h⟩))
  go_enter Try.func23, Try.ntmps23
  go_wp2_with fail
  refine HM.out.mono ?_
  rintro e w1 ⟨rfl, rfl⟩
  go_wp2_with fail
  go_ret2
  exact ⟨rfl, rfl⟩
theorem array_v (B g ra c R : Nat) (Z : List (List Int)) (la : Addr) (P : List Value) (r : Int) (w : World) (h : Hq15 w B g ra c R Z la P) (hz : Z.length ≤ 100000) :
    Calls Try.prog 23 #[.pointer (some ⟨B, 0, none⟩), .int .i64 r] w fun e w' => ∃ a, e = .returned (.tuple #[.slice a (row15 Z r).length (row15 Z r).length, .bool (is15 Z r)]) ∧ (0 < (row15 Z r).length → a = some ⟨g, off15 Z r.toNat, none⟩) ∧ w' = w := by
  have HM := Lib.hid (made15_v (.pointer (some ⟨B, 0, none⟩)) true w (.inl ⟨rfl, B, rfl, h.c0⟩))
  have c1 := h.c1
  have H := Lib.hid h
  clear h
  obtain ⟨n, hn⟩ : ∃ n, Z.length = n := ⟨_, rfl⟩
  rw [hn] at c1 hz
  have HN := Lib.hid hn
  clear hn
  go_enter Try.func23, Try.ntmps23
  go_wp2_with fail
  refine HM.out.mono ?_
  rintro e w1 ⟨rfl, rfl⟩
  cases hi : is15 Z r with
  | true =>
    have HI := Lib.hid hi
    have hb := hi
    simp only [is15, Bool.and_eq_true, decide_eq_true_eq, HN.out] at hb
    obtain ⟨h1, h2⟩ := hb
    obtain ⟨a, ca, ha⟩ := H.out.at_ (row15_at hi)
    obtain ⟨k, hk⟩ : ∃ k, r.toNat = k := ⟨_, rfl⟩
    obtain rfl : r = (k : Int) := by omega
    rw [hk] at ca ha
    have HA := Lib.hid ha
    obtain ⟨m, hm⟩ : ∃ m, (row15 Z k).length = m := ⟨_, rfl⟩
    rw [hm] at ca
    have HMM := Lib.hid hm
    clear hi hk ha hm
    go_wp2_with fail
    go_ret2
    rw [HMM.out] at HA ⊢
    rw [HI.out]
    exact ⟨a, rfl, HA.out, rfl⟩
  | false =>
    have HI := Lib.hid hi
    simp only [is15, Bool.and_eq_false_iff, decide_eq_false_iff_not, HN.out] at hi
    have HI2 := Lib.hid hi
    clear hi
    by_cases h1 : r < 0
    · go_wp2_with fail
      go_ret2
      rw [row15_no HI.out, HI.out]
      exact ⟨none, rfl, fun h => (by cases h), rfl⟩
    · have h2 : (n : Int) ≤ r := by have := HI2.out; omega
      go_wp2_with fail
      go_ret2
      rw [row15_no HI.out, HI.out]
      exact ⟨none, rfl, fun h => (by cases h), rfl⟩
theorem wordN_v (v : Value) (r i : Int) (w : World) (h : No15 w v) : Calls Try.prog 21 #[v, .int .i64 r, .int .i64 i] w fun e w' => e = .returned (.pointer none) ∧ w' = w := by
  have HM := Lib.hid (arrayN_v v r w h)
  go_enter Try.func21, Try.ntmps21
  go_wp2_with fail
  refine HM.out.mono ?_
  rintro e w1 ⟨rfl, rfl⟩
  by_cases h1 : i < 0
  · go_wp2_with fail
    go_ret
    exact ⟨rfl, rfl⟩
  · go_wp2_with fail
    go_ret
    exact ⟨rfl, rfl⟩
/-- Where a word stands. -/
def wo15 (g : Nat) (Z : List (List Int)) (r i : Int) : Option Addr := if pl15 Z r i = true then some ⟨g, off15 Z r.toNat + i.toNat, none⟩ else none
theorem word_v (B g ra c R : Nat) (Z : List (List Int)) (la : Addr) (P : List Value) (r i : Int) (w : World) (h : Hq15 w B g ra c R Z la P) (hz : Z.length ≤ 100000) :
    Calls Try.prog 21 #[.pointer (some ⟨B, 0, none⟩), .int .i64 r, .int .i64 i] w fun e w' => e = .returned (.pointer (wo15 g Z r i)) ∧ w' = w := by
  have HM := Lib.hid (array_v B g ra c R Z la P r w h hz)
  have H := Lib.hid h
  clear h
  go_enter Try.func21, Try.ntmps21
  go_wp2_with fail
  refine HM.out.mono ?_
  rintro e w1 ⟨a, rfl, ha, rfl⟩
  have HA := Lib.hid ha
  clear ha
  have hl : (row15 Z r).length ≤ 1024 := by
    cases hi : is15 Z r with
    | true =>
      have h1 := off15_le (row15_at hi)
      have h2 := H.out.room
      have h3 := H.out.big
      omega
    | false => rw [row15_no hi]; exact Nat.zero_le _
  cases hp : pl15 Z r i with
  | true =>
    have HPP := Lib.hid hp
    have hq := hp
    simp only [pl15, Bool.and_eq_true, decide_eq_true_eq] at hq
    obtain ⟨h1, h2⟩ := hq
    obtain ⟨k, hk⟩ : ∃ k, i.toNat = k := ⟨_, rfl⟩
    obtain rfl : i = (k : Int) := by omega
    obtain ⟨m, hm⟩ : ∃ m, (row15 Z r).length = m := ⟨_, rfl⟩
    rw [hm] at h2 hl HA ⊢
    obtain rfl := HA.out (by omega)
    have hadd := as15 g (off15 Z r.toNat) k
    have HADD := Lib.hid hadd
    have hwo : Hid (wo15 g Z r k = some ⟨g, off15 Z r.toNat + k, none⟩) := by rw [Hid, wo15, if_pos HPP.out, Int.toNat_natCast]
    clear hm hp hk hadd HA
    go_wp2_with fail
    go_ret
    rw [hwo.out]
    exact ⟨rfl, rfl⟩
  | false =>
    have HPP := Lib.hid hp
    simp only [pl15, Bool.and_eq_false_iff, decide_eq_false_iff_not] at hp
    obtain ⟨m, hm⟩ : ∃ m, (row15 Z r).length = m := ⟨_, rfl⟩
    rw [hm] at hp hl ⊢
    have HP := Lib.hid hp
    clear hp hm
    by_cases h1 : i < 0
    · go_wp2_with fail
      go_ret
      rw [wo15, if_neg (by rw [HPP.out]; decide)]
      exact ⟨rfl, rfl⟩
    · have h2 : (m : Int) ≤ i := by have := HP.out; omega
      go_wp2_with fail
      go_ret
      rw [wo15, if_neg (by rw [HPP.out]; decide)]
      exact ⟨rfl, rfl⟩
end Go.Proofs.Ytibiocjdkndnhaa
