/-
  What capstanref03.Read answers: the same function of the bytes as the program's Read; nothing that was there has changed.
-/
import Derived.Test.YtndgiehipajghaaDoorVref
namespace Go.Proofs.YtndgiehipajghaaDoor
open Go.RowKit
set_option linter.unusedSimpArgs false
set_option linter.unusedVariables false

set_option maxRecDepth 100000 in
set_option maxHeartbeats 1000000 in
theorem rr_a1 (A : Option Addr) (c : Nat) (l : List Int) (p : Int) (w : World) (hr : Rd w A c l) (hl : l.length ≤ 2000) (hp : p < 0) : Calls Tryd.prog 20 #[.slice A l.length c, .int .i64 p] w fun e w' => e = .returned (.tuple #[.agg #[.int .u8 0, .int .i64 0, .int .i64 0], .int .i64 0, .int .i64 2]) ∧ Below w.heap.size w w' := by
  have HR := Lib.hid hr
  have HL := Lib.hid hl
  have hlen := hr.len
  have hlc := hr.le
  have hcap := hr.cap
  clear hr
  go_enter Tryd.func20, Tryd.ntmps20
  go_wp2_with fail
  exact bodyPost_ret (v := .tuple #[.agg #[.int .u8 0, .int .i64 0, .int .i64 0], .int .i64 0, .int .i64 2]) (by simp [results, Tryd.results20, go_sem]) rfl ⟨rfl, new1⟩
set_option maxRecDepth 100000 in
set_option maxHeartbeats 1000000 in
theorem rr_a2 (A : Option Addr) (c : Nat) (l : List Int) (p : Int) (w : World) (hr : Rd w A c l) (hl : l.length ≤ 2000) (hp : (l.length : Int) < p) : Calls Tryd.prog 20 #[.slice A l.length c, .int .i64 p] w fun e w' => e = .returned (.tuple #[.agg #[.int .u8 0, .int .i64 0, .int .i64 0], .int .i64 0, .int .i64 2]) ∧ Below w.heap.size w w' := by
  have HR := Lib.hid hr
  have HL := Lib.hid hl
  have hlen := hr.len
  have hlc := hr.le
  have hcap := hr.cap
  clear hr
  have hp0 : 0 ≤ p := by omega
  go_enter Tryd.func20, Tryd.ntmps20
  go_wp2_with fail
  exact bodyPost_ret (v := .tuple #[.agg #[.int .u8 0, .int .i64 0, .int .i64 0], .int .i64 0, .int .i64 2]) (by simp [results, Tryd.results20, go_sem]) rfl ⟨rfl, new1⟩
set_option maxRecDepth 100000 in
set_option maxHeartbeats 1000000 in
theorem rr_a3 (A : Option Addr) (c : Nat) (l : List Int) (p : Int) (w : World) (hr : Rd w A c l) (hl : l.length ≤ 2000) (hp : (l.length : Int) = p) : Calls Tryd.prog 20 #[.slice A l.length c, .int .i64 p] w fun e w' => e = .returned (.tuple #[.agg #[.int .u8 0, .int .i64 0, .int .i64 0], .int .i64 0, .int .i64 10]) ∧ Below w.heap.size w w' := by
  have HR := Lib.hid hr
  have HL := Lib.hid hl
  have hlen := hr.len
  have hlc := hr.le
  have hcap := hr.cap
  clear hr
  subst hp
  go_enter Tryd.func20, Tryd.ntmps20
  go_wp2_with fail
  exact bodyPost_ret (v := .tuple #[.agg #[.int .u8 0, .int .i64 0, .int .i64 0], .int .i64 0, .int .i64 10]) (by simp [results, Tryd.results20, go_sem]) rfl ⟨rfl, new1⟩
set_option maxRecDepth 100000 in
set_option maxHeartbeats 1000000 in
theorem rr_o (A : Option Addr) (c : Nat) (l : List Int) (q : Nat) (w : World) (hr : Rd w A c l) (hl : l.length ≤ 2000) (hq : q < l.length) (h1 : (l[q]?.getD 0 == 1) = false) (h2 : (l[q]?.getD 0 == 2) = false) : Calls Tryd.prog 20 #[.slice A l.length c, .int .i64 q] w fun e w' => e = .returned (.tuple #[.agg #[.int .u8 0, .int .i64 0, .int .i64 0], .int .i64 0, .int .i64 30]) ∧ Below w.heap.size w w' := by
  have HR := Lib.hid hr
  have HL := Lib.hid hl
  have hlen := hr.len
  have hlc := hr.le
  have hcap := hr.cap
  clear hr
  obtain ⟨ad, rfl, hcell⟩ := (HR.out.alloc (.cells #[.int .u8 0, .int .i64 0, .int .i64 0] 23)).at_ hq
  have hq' : (q : Int) < (l.length : Int) := by omega
  have hqn : ((q : Int) == (l.length : Int)) = false := by simp; omega
  have hq0 : (0 : Int) ≤ (q : Int) := by omega
  clear hq hl
  go_enter Tryd.func20, Tryd.ntmps20
  go_wp2_with fail
  exact bodyPost_ret (v := .tuple #[.agg #[.int .u8 0, .int .i64 0, .int .i64 0], .int .i64 0, .int .i64 30]) (by simp [results, Tryd.results20, go_sem]) rfl ⟨rfl, new1⟩
set_option maxRecDepth 100000 in
set_option maxHeartbeats 1000000 in
theorem rr_1s (A : Option Addr) (c : Nat) (l : List Int) (q : Nat) (w : World) (hr : Rd w A c l) (hl : l.length ≤ 2000) (hq : q < l.length) (hk : l[q]?.getD 0 = 1) (hs : l.length < q + 9) : Calls Tryd.prog 20 #[.slice A l.length c, .int .i64 q] w fun e w' => e = .returned (.tuple #[.agg #[.int .u8 0, .int .i64 0, .int .i64 0], .int .i64 0, .int .i64 10]) ∧ Below w.heap.size w w' := by
  have HR := Lib.hid hr
  have HL := Lib.hid hl
  have hlen := hr.len
  have hlc := hr.le
  have hcap := hr.cap
  clear hr
  obtain ⟨ad, rfl, hcell⟩ := (HR.out.alloc (.cells #[.int .u8 0, .int .i64 0, .int .i64 0] 23)).at_ hq
  have hq' : (q : Int) < (l.length : Int) := by omega
  have hqn : ((q : Int) == (l.length : Int)) = false := by simp; omega
  have hq0 : (0 : Int) ≤ (q : Int) := by omega
  have E : Hid (cutE l ((q : Int) + 1) 8 = 10) := (cut_short (l := l) (p := (q : Int) + 1) (n := 8) (by omega) (by omega) (by omega)).1
  rw [hk] at hcell
  clear hk hq hl hs
  go_enter Tryd.func20, Tryd.ntmps20
  go_wp2_with fail
  refine (rgsig_any (some ad) c l ((q : Int) + 1) _ (HR.out.alloc _) HL.out).mono ?_
  rintro e w1 ⟨rfl, rfl⟩
  rw [E.out]
  go_wp2_with fail
  exact bodyPost_ret (v := .tuple #[.agg #[.int .u8 0, .int .i64 0, .int .i64 0], .int .i64 0, .int .i64 10]) (by simp [results, Tryd.results20, go_sem]) rfl ⟨rfl, new1⟩
set_option maxRecDepth 100000 in
set_option maxHeartbeats 1000000 in
theorem rr_1 (A : Option Addr) (c : Nat) (l : List Int) (q : Nat) (x n : Int) (w : World) (hr : Rd w A c l) (hl : l.length ≤ 2000) (hq : q < l.length) (hk : l[q]?.getD 0 = 1) (hx : sigV l ((q : Int) + 1) = x ∧ cutN l ((q : Int) + 1) 8 = n ∧ cutE l ((q : Int) + 1) 8 = 0) : Calls Tryd.prog 20 #[.slice A l.length c, .int .i64 q] w fun e w' => e = .returned (.tuple #[.agg #[.int .u8 1, .int .i64 x, .int .i64 0], .int .i64 n, .int .i64 0]) ∧ Below w.heap.size w w' := by
  have HR := Lib.hid hr
  have HL := Lib.hid hl
  have hlen := hr.len
  have hlc := hr.le
  have hcap := hr.cap
  clear hr
  obtain ⟨ad, rfl, hcell⟩ := (HR.out.alloc (.cells #[.int .u8 0, .int .i64 0, .int .i64 0] 23)).at_ hq
  have hq' : (q : Int) < (l.length : Int) := by omega
  have hqn : ((q : Int) == (l.length : Int)) = false := by simp; omega
  have hq0 : (0 : Int) ≤ (q : Int) := by omega
  have E := Lib.hid hx
  rw [hk] at hcell
  clear hk hq hl hx
  go_enter Tryd.func20, Tryd.ntmps20
  go_wp2_with fail
  refine (rgsig_any (some ad) c l ((q : Int) + 1) _ (HR.out.alloc _) HL.out).mono ?_
  rintro e w1 ⟨rfl, rfl⟩
  rw [E.out.1, E.out.2.1, E.out.2.2]
  go_wp2_with fail
  exact bodyPost_ret (v := .tuple #[.agg #[.int .u8 1, .int .i64 x, .int .i64 0], .int .i64 n, .int .i64 0]) (by simp [results, Tryd.results20, go_sem]) rfl ⟨rfl, new1⟩
set_option maxRecDepth 100000 in
set_option maxHeartbeats 1000000 in
theorem rr_2s (A : Option Addr) (c : Nat) (l : List Int) (q : Nat) (w : World) (hr : Rd w A c l) (hl : l.length ≤ 2000) (hq : q < l.length) (hk : l[q]?.getD 0 = 2) (hs : l.length < q + 7) : Calls Tryd.prog 20 #[.slice A l.length c, .int .i64 q] w fun e w' => e = .returned (.tuple #[.agg #[.int .u8 0, .int .i64 0, .int .i64 0], .int .i64 0, .int .i64 10]) ∧ Below w.heap.size w w' := by
  have HR := Lib.hid hr
  have HL := Lib.hid hl
  have hlen := hr.len
  have hlc := hr.le
  have hcap := hr.cap
  clear hr
  obtain ⟨ad, rfl, hcell⟩ := (HR.out.alloc (.cells #[.int .u8 0, .int .i64 0, .int .i64 0] 23)).at_ hq
  have hq' : (q : Int) < (l.length : Int) := by omega
  have hqn : ((q : Int) == (l.length : Int)) = false := by simp; omega
  have hq0 : (0 : Int) ≤ (q : Int) := by omega
  have hs' : (l.length : Int) - (q : Int) < 7 := by omega
  rw [hk] at hcell
  clear hk hq hl hs
  go_enter Tryd.func20, Tryd.ntmps20
  go_wp2_with fail
  exact bodyPost_ret (v := .tuple #[.agg #[.int .u8 0, .int .i64 0, .int .i64 0], .int .i64 0, .int .i64 10]) (by simp [results, Tryd.results20, go_sem]) rfl ⟨rfl, new1⟩
set_option maxRecDepth 100000 in
set_option maxHeartbeats 1000000 in
theorem rr_2x (A : Option Addr) (c : Nat) (l : List Int) (q : Nat) (x n y m : Int) (w : World) (hr : Rd w A c l) (hl : l.length ≤ 2000) (hq : q < l.length) (hk : l[q]?.getD 0 = 2) (hs : q + 7 ≤ l.length) (hx : getV l ((q : Int) + 1) 3 = x ∧ getN l ((q : Int) + 1) 3 = n ∧ getE l ((q : Int) + 1) 3 = 0) (hy : getV l ((q : Int) + 4) 3 = y ∧ getN l ((q : Int) + 4) 3 = m ∧ getE l ((q : Int) + 4) 3 = 0) (x0 : 0 ≤ x) (y0 : 0 ≤ y) (hb : 2097152 < x) : Calls Tryd.prog 20 #[.slice A l.length c, .int .i64 q] w fun e w' => e = .returned (.tuple #[.agg #[.int .u8 0, .int .i64 0, .int .i64 0], .int .i64 0, .int .i64 30]) ∧ Below w.heap.size w w' := by
  have HR := Lib.hid hr
  have HL := Lib.hid hl
  have hlen := hr.len
  have hlc := hr.le
  have hcap := hr.cap
  clear hr
  obtain ⟨ad, rfl, hcell⟩ := (HR.out.alloc (.cells #[.int .u8 0, .int .i64 0, .int .i64 0] 23)).at_ hq
  have hq' : (q : Int) < (l.length : Int) := by omega
  have hqn : ((q : Int) == (l.length : Int)) = false := by simp; omega
  have hq0 : (0 : Int) ≤ (q : Int) := by omega
  have hs' : (7 : Int) ≤ (l.length : Int) - (q : Int) := by omega
  have E := Lib.hid hx
  have E' := Lib.hid hy
  rw [hk] at hcell
  clear hk hq hl hx hy hs
  go_enter Tryd.func20, Tryd.ntmps20
  go_wp2_with fail
  refine (rget_any (some ad) c l ((q : Int) + 1) 3 _ (HR.out.alloc _) HL.out).mono ?_
  rintro e w1 ⟨rfl, rfl⟩
  rw [E.out.1, E.out.2.1, E.out.2.2]
  go_wp2_with fail
  refine (rget_any (some ad) c l ((q : Int) + 4) 3 _ (HR.out.alloc _) HL.out).mono ?_
  rintro e w2 ⟨rfl, rfl⟩
  rw [E'.out.1, E'.out.2.1, E'.out.2.2]
  go_wp2_with fail
  exact bodyPost_ret (v := .tuple #[.agg #[.int .u8 0, .int .i64 0, .int .i64 0], .int .i64 0, .int .i64 30]) (by simp [results, Tryd.results20, go_sem]) rfl ⟨rfl, new1⟩
set_option maxRecDepth 100000 in
set_option maxHeartbeats 1000000 in
theorem rr_2y (A : Option Addr) (c : Nat) (l : List Int) (q : Nat) (x n y m : Int) (w : World) (hr : Rd w A c l) (hl : l.length ≤ 2000) (hq : q < l.length) (hk : l[q]?.getD 0 = 2) (hs : q + 7 ≤ l.length) (hx : getV l ((q : Int) + 1) 3 = x ∧ getN l ((q : Int) + 1) 3 = n ∧ getE l ((q : Int) + 1) 3 = 0) (hy : getV l ((q : Int) + 4) 3 = y ∧ getN l ((q : Int) + 4) 3 = m ∧ getE l ((q : Int) + 4) 3 = 0) (x0 : 0 ≤ x) (y0 : 0 ≤ y) (ha : x ≤ 2097152) (hb : 2097152 < y) : Calls Tryd.prog 20 #[.slice A l.length c, .int .i64 q] w fun e w' => e = .returned (.tuple #[.agg #[.int .u8 0, .int .i64 0, .int .i64 0], .int .i64 0, .int .i64 30]) ∧ Below w.heap.size w w' := by
  have HR := Lib.hid hr
  have HL := Lib.hid hl
  have hlen := hr.len
  have hlc := hr.le
  have hcap := hr.cap
  clear hr
  obtain ⟨ad, rfl, hcell⟩ := (HR.out.alloc (.cells #[.int .u8 0, .int .i64 0, .int .i64 0] 23)).at_ hq
  have hq' : (q : Int) < (l.length : Int) := by omega
  have hqn : ((q : Int) == (l.length : Int)) = false := by simp; omega
  have hq0 : (0 : Int) ≤ (q : Int) := by omega
  have hs' : (7 : Int) ≤ (l.length : Int) - (q : Int) := by omega
  have E := Lib.hid hx
  have E' := Lib.hid hy
  rw [hk] at hcell
  clear hk hq hl hx hy hs
  have hd : decide (2097152 < x) = false := by simp; omega
  go_enter Tryd.func20, Tryd.ntmps20
  go_wp2_with fail
  refine (rget_any (some ad) c l ((q : Int) + 1) 3 _ (HR.out.alloc _) HL.out).mono ?_
  rintro e w1 ⟨rfl, rfl⟩
  rw [E.out.1, E.out.2.1, E.out.2.2]
  go_wp2_with fail
  refine (rget_any (some ad) c l ((q : Int) + 4) 3 _ (HR.out.alloc _) HL.out).mono ?_
  rintro e w2 ⟨rfl, rfl⟩
  rw [E'.out.1, E'.out.2.1, E'.out.2.2]
  go_wp2_with fail
  exact bodyPost_ret (v := .tuple #[.agg #[.int .u8 0, .int .i64 0, .int .i64 0], .int .i64 0, .int .i64 30]) (by simp [results, Tryd.results20, go_sem]) rfl ⟨rfl, new1⟩
set_option maxRecDepth 100000 in
set_option maxHeartbeats 1000000 in
theorem rr_2 (A : Option Addr) (c : Nat) (l : List Int) (q : Nat) (x n y m : Int) (w : World) (hr : Rd w A c l) (hl : l.length ≤ 2000) (hq : q < l.length) (hk : l[q]?.getD 0 = 2) (hs : q + 7 ≤ l.length) (hx : getV l ((q : Int) + 1) 3 = x ∧ getN l ((q : Int) + 1) 3 = n ∧ getE l ((q : Int) + 1) 3 = 0) (hy : getV l ((q : Int) + 4) 3 = y ∧ getN l ((q : Int) + 4) 3 = m ∧ getE l ((q : Int) + 4) 3 = 0) (x0 : 0 ≤ x) (y0 : 0 ≤ y) (ha : x ≤ 2097152) (hb : y ≤ 2097152) : Calls Tryd.prog 20 #[.slice A l.length c, .int .i64 q] w fun e w' => e = .returned (.tuple #[.agg #[.int .u8 2, .int .i64 (x - 1048576), .int .i64 (y - 1048576)], .int .i64 ((q : Int) + 7), .int .i64 0]) ∧ Below w.heap.size w w' := by
  have HR := Lib.hid hr
  have HL := Lib.hid hl
  have hlen := hr.len
  have hlc := hr.le
  have hcap := hr.cap
  clear hr
  obtain ⟨ad, rfl, hcell⟩ := (HR.out.alloc (.cells #[.int .u8 0, .int .i64 0, .int .i64 0] 23)).at_ hq
  have hq' : (q : Int) < (l.length : Int) := by omega
  have hqn : ((q : Int) == (l.length : Int)) = false := by simp; omega
  have hq0 : (0 : Int) ≤ (q : Int) := by omega
  have hs' : (7 : Int) ≤ (l.length : Int) - (q : Int) := by omega
  have E := Lib.hid hx
  have E' := Lib.hid hy
  rw [hk] at hcell
  clear hk hq hl hx hy hs
  go_enter Tryd.func20, Tryd.ntmps20
  go_wp2_with fail
  refine (rget_any (some ad) c l ((q : Int) + 1) 3 _ (HR.out.alloc _) HL.out).mono ?_
  rintro e w1 ⟨rfl, rfl⟩
  rw [E.out.1, E.out.2.1, E.out.2.2]
  go_wp2_with fail
  refine (rget_any (some ad) c l ((q : Int) + 4) 3 _ (HR.out.alloc _) HL.out).mono ?_
  rintro e w2 ⟨rfl, rfl⟩
  rw [E'.out.1, E'.out.2.1, E'.out.2.2]
  go_wp2_with fail
  exact bodyPost_ret (v := .tuple #[.agg #[.int .u8 2, .int .i64 (x - 1048576), .int .i64 (y - 1048576)], .int .i64 ((q : Int) + 7), .int .i64 0]) (by simp [results, Tryd.results20, go_sem]) rfl ⟨rfl, new1⟩

theorem r3read_v (A : Option Addr) (c : Nat) (l : List Int) (p k a b n e0 : Int) (w : World) (hr : Rd w A c l) (hl : l.length ≤ 2000) (h : rdT l p = (k, a, b, n, e0)) :
    Calls Tryd.prog 20 #[.slice A l.length c, .int .i64 p] w fun e w' => e = .returned (.tuple #[.agg #[.int .u8 k, .int .i64 a, .int .i64 b], .int .i64 n, .int .i64 e0]) ∧ Below w.heap.size w w' := by
  have hb := hr.byt
  unfold rdT at h
  split at h
  · rename_i hp
    obtain ⟨rfl, rfl, rfl, rfl, rfl⟩ := by simpa using h
    rcases hp with hp | hp
    · exact rr_a1 A c l p w hr hl hp
    · exact rr_a2 A c l p w hr hl hp
  · rename_i hp
    split at h
    · rename_i hp2
      obtain ⟨rfl, rfl, rfl, rfl, rfl⟩ := by simpa using h
      exact rr_a3 A c l p w hr hl hp2
    · rename_i hp2
      obtain ⟨q, rfl⟩ : ∃ q : Nat, p = q := ⟨p.toNat, by omega⟩
      rw [Int.toNat_natCast] at h
      have hq : q < l.length := by omega
      have e1 : ((q : Int) + 1) = ((q + 1 : Nat) : Int) := by omega
      split at h
      · rename_i hk
        split at h
        · rename_i hs
          obtain ⟨rfl, rfl, rfl, rfl, rfl⟩ := by simpa using h
          exact rr_1s A c l q w hr hl hq hk hs
        · rename_i hs
          obtain ⟨rfl, rfl, rfl, rfl, rfl⟩ := by simpa using h
          obtain ⟨c1, c2, c3⟩ := cut_yes (l := l) (p := (q : Int) + 1) (n := 8) (by omega) (by omega) (by omega)
          refine rr_1 A c l q _ _ w hr hl hq hk ⟨?_, ?_, c1⟩
          · rw [sigV, c2, e1]; rfl
          · rw [c3]; omega
      · rename_i hk1
        split at h
        · rename_i hk
          split at h
          · rename_i hs
            obtain ⟨rfl, rfl, rfl, rfl, rfl⟩ := by simpa using h
            exact rr_2s A c l q w hr hl hq hk hs
          · rename_i hs
            have g2 := get3 hb (a := q + 1) (by omega)
            have g3 := get3 hb (a := q + 4) (by omega)
            have e4 : ((q + 4 : Nat) : Int) = (q : Int) + 4 := by omega
            rw [← e1] at g2
            rw [e4] at g3
            have x0 := (x3_bd hb (q + 1)).1
            have y0 := (x3_bd hb (q + 4)).1
            split at h
            · rename_i hm
              obtain ⟨rfl, rfl, rfl, rfl, rfl⟩ := by simpa using h
              have ho := okB_iff.1 (show okB (x3 l (q + 1) - 1048576) (x3 l (q + 4) - 1048576) = true by simpa [mayB] using hm)
              exact rr_2 A c l q _ _ _ _ w hr hl hq hk (by omega) g2 g3 x0 y0 (by omega) (by omega)
            · rename_i hm
              obtain ⟨rfl, rfl, rfl, rfl, rfl⟩ := by simpa using h
              by_cases hx : 2097152 < x3 l (q + 1)
              · exact rr_2x A c l q _ _ _ _ w hr hl hq hk (by omega) g2 g3 x0 y0 hx
              · by_cases hy : 2097152 < x3 l (q + 4)
                · exact rr_2y A c l q _ _ _ _ w hr hl hq hk (by omega) g2 g3 x0 y0 (by omega) hy
                · exfalso
                  apply hm
                  have : okB (x3 l (q + 1) - 1048576) (x3 l (q + 4) - 1048576) = true := okB_iff.2 (by omega)
                  simp [mayB, this]
        · rename_i hk2
          obtain ⟨rfl, rfl, rfl, rfl, rfl⟩ := by simpa using h
          exact rr_o A c l q w hr hl hq (by simpa using hk1) (by simpa using hk2)
end Go.Proofs.YtndgiehipajghaaDoor
