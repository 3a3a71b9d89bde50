/-
  The walk of OctetFew: for every width and number, signed number and row it returns true; nothing that was there has changed.
-/
import Derived.Test.YtingcchamhbgkaaRise
namespace Go.Proofs.Ytingcchamhbgkaa
open Go.RowKit

/-- Numbers that came in as a slice of bytes read as a list. -/
theorem rd_of_row {w : World} {a : Option Addr} {len cap : Nat} {zs : List Int}
    (h : (a = none ∧ len = 0 ∧ cap = 0 ∧ zs = []) ∨ ∃ x : Addr, a = some x ∧ len ≤ cap ∧ cap ≤ maxLen ∧ zs.length = cap ∧ (∀ i, i < zs.length → w.cell? (x.add i) = some (.int .u8 (zs.getD i 0))) ∧ ∀ n ∈ zs, (Lit.int .u8 n).wf = true) :
    ∃ l : List Int, l.length = len ∧ Rd w a cap l := by
  rcases h with ⟨rfl, rfl, rfl, rfl⟩ | ⟨x, rfl, h1, h2, h3, h4, h5⟩
  · exact ⟨[], rfl, Rd.none_ w⟩
  · refine ⟨zs.take len, by simp; omega, fun n hn => ?_, by simp; omega, h2, .inr ⟨x, rfl, fun i y hy => ?_⟩⟩
    · have := bounds_u8 (h5 n (List.mem_of_mem_take hn)); omega
    · rw [List.getElem?_take] at hy
      split at hy
      · have hlt := (List.getElem?_eq_some_iff.1 hy).1
        rw [h4 i hlt, List.getD_eq_getElem?_getD, hy]
        rfl
      · cases hy

theorem Rd.pre {w : World} {A : Option Addr} {c : Nat} {l : List Int} (h : Rd w A c l) (n : Nat) : Rd w A c (l.take n) := by
  refine ⟨byt_take h.1 _, by have := h.2.1; simp; omega, h.2.2.1, ?_⟩
  rcases h.2.2.2 with hn | ⟨ad, ha, hc⟩
  · exact .inl hn
  · refine .inr ⟨ad, ha, fun i x hx => ?_⟩
    rw [List.getElem?_take] at hx
    split at hx
    · exact hc i x hx
    · cases hx
theorem get_m (A : Option Addr) (m c : Nat) (l : List Int) (p W : Int) (w : World) (hr : Rd w A c l) (hm : l.length = m) :
    Calls Try.prog 16 #[.slice A m c, .int .i64 p, .int .i64 W] w fun e w' => e = .returned (.tuple #[.int .i64 (getV l p W), .int .i64 (getN l p W), .int .i64 (getE l p W)]) ∧ Below w.heap.size w w' := by
  subst hm; exact get_any A c l p W w hr
theorem sig_m (A : Option Addr) (m c : Nat) (l : List Int) (p : Int) (w : World) (hr : Rd w A c l) (hm : l.length = m) :
    Calls Try.prog 18 #[.slice A m c, .int .i64 p] w fun e w' => e = .returned (.tuple #[.int .i64 (sigV l p), .int .i64 (cutN l p 8), .int .i64 (cutE l p 8)]) ∧ Below w.heap.size w w' := by
  subst hm; exact sig_any A c l p w hr
theorem row_m (A : Option Addr) (m c : Nat) (l : List Int) (w : World) (hr : Rd w A c l) (hm : l.length = m) :
    Calls Try.prog 14 #[.slice A m c] w fun e w' => ∃ A' c', e = .returned (.tuple #[.slice A' (rowL l).length c', .int .i64 (rowE l)]) ∧
      w'.ownsRow w.heap.size 5 1 (.slice A' (rowL l).length c') (rowL l).length (cel (rowL l)) ∧ Below w.heap.size w w' := by
  subst hm; exact row_any A c l w hr
theorem getrow_m (A : Option Addr) (m c : Nat) (l : List Int) (p : Int) (w : World) (hr : Rd w A c l) (hm : l.length = m) :
    Calls Try.prog 20 #[.slice A m c, .int .i64 p] w fun e w' => ∃ A' c', e = .returned (.tuple #[.slice A' (grL l p).length c', .int .i64 (grN l p), .int .i64 (grE l p)]) ∧
      w'.ownsRow w.heap.size 5 1 (.slice A' (grL l p).length c') (grL l p).length (cel (grL l p)) ∧ Below w.heap.size w w' := by
  subst hm; exact row_get A c l p w hr
theorem get_short {l : List Int} {p W : Int} (h : 1 ≤ W ∧ W ≤ 8) (h0 : 0 ≤ p) (h1 : p ≤ l.length) (h2 : l.length - p < W) : getE l p W = 10 := by
  have e := (cut_short h0 h1 h2).1
  rw [get_eq h, e]
  rfl
theorem get_ok {l : List Int} {p W : Int} (h : 1 ≤ W ∧ W ≤ 8) (h0 : 0 ≤ p) (h1 : p ≤ l.length) (h2 : W ≤ l.length - p) (hb : num ((l.drop p.toNat).take W.toNat) ≤ 9223372036854775807) :
    getE l p W = 0 ∧ getV l p W = num ((l.drop p.toNat).take W.toNat) ∧ getN l p W = p + W := by
  obtain ⟨e1, e2, _⟩ := cut_yes h0 h1 h2
  have e : getE l p W = 0 := by rw [get_eq h, if_pos e1, e2, if_neg (by omega)]
  exact ⟨e, by rw [getV, if_pos e, e2], by rw [getN, if_pos e]⟩
/-- A row without its last byte. -/
theorem row_short {l : List Int} (hl : l.length ≤ 65535) : grE ((digs l.length 2 ++ l).take (2 + l.length - 1)) 0 = 10 := by
  rcases l with _ | ⟨b, l⟩
  · decide
  · have hlen : ((digs (b :: l).length 2 ++ (b :: l)).take (2 + (b :: l).length - 1)).length = 2 + l.length := by simp [length_digs]
    have hsplit : ((digs (b :: l).length 2 ++ (b :: l)).take (2 + (b :: l).length - 1)).take 2 = digs (b :: l).length 2 := by
      rw [List.take_take, Nat.min_eq_left (by simp), List.take_append_of_le_length (by rw [length_digs]; omega), List.take_of_length_le (by rw [length_digs]; omega)]
    generalize (digs (b :: l).length 2 ++ (b :: l)).take (2 + (b :: l).length - 1) = m at *
    have hn : num ((m.drop (0 : Int).toNat).take (2 : Int).toNat) = (b :: l).length := by
      have : (m.drop (0 : Int).toNat).take (2 : Int).toNat = m.take 2 := rfl
      rw [this, hsplit, num_digs, p256_2]
      omega
    obtain ⟨e1, e2, e3⟩ := get_ok (l := m) (p := 0) (W := 2) (by decide) (by decide) (by omega) (by omega) (by rw [hn]; simp at hl ⊢; omega)
    rw [grE, if_pos e1, e2, hn]
    exact (cut_short (by decide) (by simp; omega) (by simp; omega)).1

set_option maxHeartbeats 1000000 in
theorem few_walk (W n s : Int) (A : Option Addr) (c : Nat) (l : List Int) (w : World) (hr : Rd w A c l) : Calls Try.prog 7 #[.int .i64 W, .int .i64 n, .int .i64 s, .slice A l.length c] w fun e w' => e = .returned (.bool true) ∧ Below w.heap.size w w' := by
  have hlen := hr.len
  obtain ⟨i0, hi, hz0, hz1, hz2⟩ := info_parts Try.info5
  go_enter Try.func7, Try.ntmps7
  go_wp2_with fail
  refine (awake_any _).mono ?_
  rintro e w1 ⟨rfl, hb1⟩
  have HB1 := Lib.hid hb1
  clear hb1
  by_cases hl : 300 < l.length
  · go_wp2_with fail
    go_ret
    exact ⟨rfl, HB1.out⟩
  · have e1 : rowE l = 0 := by simp [rowE]; omega
    have e2 : rowL l = digs l.length 2 ++ l := by simp [rowL]; omega
    have e3 : (digs l.length 2 ++ l).length = 2 + l.length := by simp [length_digs]
    have E1 := Lib.hid e1
    have E2 := Lib.hid e2
    have E3 := Lib.hid e3
    clear e1 e2 e3
    go_wp2_with fail
    refine (put_any W n _).mono ?_
    rintro e w2 ⟨A2, c2, rfl, ho2, hb2⟩
    by_cases h1 : putE W n = 0
    · obtain ⟨k, rfl, hk1, hk8, hn0, hn, en⟩ := put_inv h1
      rw [en, length_digs] at ho2
      rw [h1, en, length_digs]
      have hr2 := own_rd ho2 (byt_digs _ _)
      have hle := hr2.le
      have hcap := hr2.cap
      rw [length_digs] at hle
      clear h1 hn0 hn en
      go_wp2_with fail
      have HR := Lib.hid (hr2.pre (k - 1))
      have hb := HB1.out.trans (hb2.mono HB1.out.size)
      have HB := Lib.hid hb
      clear hr2 hb2 hb ho2 HB1
      refine (get_m A2 _ c2 _ 0 k _ HR.out (by simp [length_digs])).mono ?_
      rintro e w3 ⟨rfl, hb3⟩
      rw [get_short (by omega) (by omega) (by omega) (by simp [length_digs]; omega)]
      have hb := HB.out.trans (hb3.mono HB.out.size)
      have HB := Lib.hid hb
      clear hb hb3 HR
      go_wp2_with fail
      refine (signed_any s _).mono ?_
      rintro e w4 ⟨rfl, ho4, hb4⟩
      have hr4 := own_rd ho4 (byt_digs _ _)
      have hb := HB.out.trans (hb4.mono HB.out.size)
      have HB := Lib.hid hb
      have HR4 := Lib.hid hr4
      have hown0 : (w4.alloc (.cells #[] 5)).ownsRow w.heap.size 5 1 (.slice (some ⟨w4.heap.size, 0, none⟩) 0 0) 0 (cel []) := World.ownsRow_lit w4 #[] 0 HB.out.size (Nat.zero_le _) rfl
      have hb0 : Below w4.heap.size w4 (w4.alloc (.cells #[] 5)) := by go_grown
      have hrl := (hr.keep HB.out).keep hb0
      clear hb hb4 ho4 hr4
      have HRL := Lib.hid hrl
      have HB0 := Lib.hid hb0
      have HO0 := Lib.hid hown0
      clear hrl hb0 hown0
      go_wp2_with (at_builtin; refine wpList_append_rd _ rfl _ _ 22 rfl w4.heap.size 5 i0 Try.underlying22 hi hz0 hz1 hz2 _ 0 [] rfl (World.ownsRow_lit w4 #[] 0 (Nat.le_refl _) (Nat.zero_le _) rfl) A l.length c l rfl HRL.out rfl (by omega) (by simp) ?_)
      intro A5 c5 w5 hown5 _ hb5 _
      have hb45 := HB0.out.trans hb5
      have hb := HB.out.trans (hb45.mono HB.out.size)
      have HB := Lib.hid hb
      have HR4 := Lib.hid (HR4.out.keep hb45)
      have hr5 := own_rd hown5 hr.byt
      have HR5 := Lib.hid hr5
      clear hb hb5 hb45 HB0 HO0 HRL hr5 hown5
      go_wp2_with fail
      refine (row_m A5 _ c5 l _ HR5.out rfl).mono ?_
      rintro e w6 ⟨A6, c6, rfl, ho6, hb6⟩
      rw [E1.out, E2.out, E3.out]
      rw [E2.out, E3.out] at ho6
      have hb := HB.out.trans (hb6.mono HB.out.size)
      have HB := Lib.hid hb
      have HR4 := Lib.hid (HR4.out.keep hb6)
      have hr6 := own_rd (l := digs l.length 2 ++ l) ho6 (byt_append (byt_digs _ _) hr.byt)
      have hle6 := hr6.le
      have hcap6 := hr6.cap
      rw [E3.out] at hle6
      have HR6 := Lib.hid hr6
      clear hb hb6 ho6 hr6
      go_wp2_with fail
      have h7 : ((digs s 8).take 7).length = 7 := by simp [length_digs]
      refine (sig_m _ 7 8 _ 0 _ (HR4.out.pre 7) h7).mono ?_
      rintro e w7 ⟨rfl, hb7⟩
      rw [(cut_short (by omega) (by omega) (by rw [h7]; omega)).1]
      have hb := HB.out.trans (hb7.mono HB.out.size)
      have HB := Lib.hid hb
      have HR6 := Lib.hid (HR6.out.keep hb7)
      clear h7 hb hb7
      go_wp2_with fail
      refine (getrow_m A6 _ c6 _ 0 _ (HR6.out.pre (2 + l.length - 1)) (by rw [List.length_take, E3.out]; omega)).mono ?_
      rintro e w8 ⟨A8, c8, rfl, _, hb8⟩
      rw [row_short (by omega)]
      have hb := HB.out.trans (hb8.mono HB.out.size)
      have HB := Lib.hid hb
      clear hb hb8
      go_wp2_with fail
      go_ret
      exact ⟨rfl, HB.out⟩
    · have h1' : (putE W n == 0) = false := by simpa using h1
      have hb := HB1.out.trans (hb2.mono HB1.out.size)
      have HB := Lib.hid hb
      clear h1 ho2 hb hb2 HB1
      go_wp2_with fail
      refine (signed_any s _).mono ?_
      rintro e w4 ⟨rfl, ho4, hb4⟩
      have hr4 := own_rd ho4 (byt_digs _ _)
      have hb := HB.out.trans (hb4.mono HB.out.size)
      have HB := Lib.hid hb
      have HR4 := Lib.hid hr4
      have hown0 : (w4.alloc (.cells #[] 5)).ownsRow w.heap.size 5 1 (.slice (some ⟨w4.heap.size, 0, none⟩) 0 0) 0 (cel []) := World.ownsRow_lit w4 #[] 0 HB.out.size (Nat.zero_le _) rfl
      have hb0 : Below w4.heap.size w4 (w4.alloc (.cells #[] 5)) := by go_grown
      have hrl := (hr.keep HB.out).keep hb0
      clear hb hb4 ho4 hr4
      have HRL := Lib.hid hrl
      have HB0 := Lib.hid hb0
      have HO0 := Lib.hid hown0
      clear hrl hb0 hown0
      go_wp2_with (at_builtin; refine wpList_append_rd _ rfl _ _ 22 rfl w4.heap.size 5 i0 Try.underlying22 hi hz0 hz1 hz2 _ 0 [] rfl (World.ownsRow_lit w4 #[] 0 (Nat.le_refl _) (Nat.zero_le _) rfl) A l.length c l rfl HRL.out rfl (by omega) (by simp) ?_)
      intro A5 c5 w5 hown5 _ hb5 _
      have hb45 := HB0.out.trans hb5
      have hb := HB.out.trans (hb45.mono HB.out.size)
      have HB := Lib.hid hb
      have HR4 := Lib.hid (HR4.out.keep hb45)
      have hr5 := own_rd hown5 hr.byt
      have HR5 := Lib.hid hr5
      clear hb hb5 hb45 HB0 HO0 HRL hr5 hown5
      go_wp2_with fail
      refine (row_m A5 _ c5 l _ HR5.out rfl).mono ?_
      rintro e w6 ⟨A6, c6, rfl, ho6, hb6⟩
      rw [E1.out, E2.out, E3.out]
      rw [E2.out, E3.out] at ho6
      have hb := HB.out.trans (hb6.mono HB.out.size)
      have HB := Lib.hid hb
      have HR4 := Lib.hid (HR4.out.keep hb6)
      have hr6 := own_rd (l := digs l.length 2 ++ l) ho6 (byt_append (byt_digs _ _) hr.byt)
      have hle6 := hr6.le
      have hcap6 := hr6.cap
      rw [E3.out] at hle6
      have HR6 := Lib.hid hr6
      clear hb hb6 ho6 hr6
      go_wp2_with fail
      have h7 : ((digs s 8).take 7).length = 7 := by simp [length_digs]
      refine (sig_m _ 7 8 _ 0 _ (HR4.out.pre 7) h7).mono ?_
      rintro e w7 ⟨rfl, hb7⟩
      rw [(cut_short (by omega) (by omega) (by rw [h7]; omega)).1]
      have hb := HB.out.trans (hb7.mono HB.out.size)
      have HB := Lib.hid hb
      have HR6 := Lib.hid (HR6.out.keep hb7)
      clear h7 hb hb7
      go_wp2_with fail
      refine (getrow_m A6 _ c6 _ 0 _ (HR6.out.pre (2 + l.length - 1)) (by rw [List.length_take, E3.out]; omega)).mono ?_
      rintro e w8 ⟨A8, c8, rfl, _, hb8⟩
      rw [row_short (by omega)]
      have hb := HB.out.trans (hb8.mono HB.out.size)
      have HB := Lib.hid hb
      clear hb hb8
      go_wp2_with fail
      go_ret
      exact ⟨rfl, HB.out⟩
end Go.Proofs.Ytingcchamhbgkaa
