/-
  Vref, Vrread: in one text.
-/
import Derived.Test.YteimpkjpoijhmaaDoorLd
import Derived.Test.YteimpkjpoijhmaaDoorLb
import Derived.Test.YteimpkjpoijhmaaDoorLc
namespace Go.Proofs.YteimpkjpoijhmaaDoor
open Go.RowKit
set_option linter.unusedSimpArgs false
set_option linter.unusedVariables false

theorem r3may_1 (a b : Int) (v : Bool) (w : World) (h : (b == 0) = v) : Calls Tryd.prog 99 #[.agg #[.int .u8 1, .int .i64 a, .int .i64 b]] w fun e w' => e = .returned (.bool v) ∧ Below w.heap.size w w' := by
  cases v with
  | true =>
    go_enter Tryd.func99, Tryd.ntmps99
    go_wp2_with fail
    go_ret
    exact ⟨rfl, new1⟩
  | false =>
    go_enter Tryd.func99, Tryd.ntmps99
    go_wp2_with fail
    go_ret
    exact ⟨rfl, new1⟩
theorem r3may_2 (a b : Int) (v : Bool) (w : World) (h : okB a b = v) : Calls Tryd.prog 99 #[.agg #[.int .u8 2, .int .i64 a, .int .i64 b]] w fun e w' => e = .returned (.bool v) ∧ Below w.heap.size w w' := by
  have H := Lib.hid h
  clear h
  go_enter Tryd.func99, Tryd.ntmps99
  go_wp2_with fail
  refine (rmay_v _ _ _ _ H.out).mono ?_
  rintro e w1 ⟨rfl, rfl⟩
  go_wp2_with fail
  go_ret
  exact ⟨rfl, new1⟩
theorem r3may_n (k a b : Int) (w : World) (h1 : (k == 1) = false) (h2 : (k == 2) = false) : Calls Tryd.prog 99 #[.agg #[.int .u8 k, .int .i64 a, .int .i64 b]] w fun e w' => e = .returned (.bool false) ∧ Below w.heap.size w w' := by
  go_enter Tryd.func99, Tryd.ntmps99
  go_wp2_with fail
  go_ret
  exact ⟨rfl, new1⟩
theorem r3may_v (k a b : Int) (v : Bool) (w : World) (h : mayB k a b = v) : Calls Tryd.prog 99 #[.agg #[.int .u8 k, .int .i64 a, .int .i64 b]] w fun e w' => e = .returned (.bool v) ∧ Below w.heap.size w w' := by
  by_cases h1 : k = 1
  · subst h1
    exact r3may_1 a b v w (by simpa [mayB] using h)
  · by_cases h2 : k = 2
    · subst h2
      exact r3may_2 a b v w (by simpa [mayB] using h)
    · have e : mayB k a b = false := by simp [mayB, h1, h2]
      rw [e] at h
      subst h
      exact r3may_n k a b w (by simpa using h1) (by simpa using h2)

theorem r3bytes_f (k a b : Int) (w : World) (h : mayB k a b = false) : Calls Tryd.prog 61 #[.agg #[.int .u8 k, .int .i64 a, .int .i64 b]] w fun e w' => e = .returned (.tuple #[.slice none 0 0, .int .i64 30]) ∧ Below w.heap.size w w' := by
  have H := Lib.hid h
  clear h
  go_enter Tryd.func61, Tryd.ntmps61
  go_wp2_with fail
  refine (r3may_v _ _ _ _ _ H.out).mono ?_
  rintro e w1 ⟨rfl, hb1⟩
  go_wp2_with fail
  go_ret2
  exact ⟨rfl, below1 hb1⟩
set_option maxHeartbeats 1000000 in
theorem r3bytes_1 (a : Int) (w : World) (ha : -9223372036854775808 ≤ a ∧ a ≤ 9223372036854775807) : Calls Tryd.prog 61 #[.agg #[.int .u8 1, .int .i64 a, .int .i64 0]] w fun e w' => ∃ A c, e = .returned (.tuple #[.slice A 9 c, .int .i64 0]) ∧
      w'.ownsRow w.heap.size 5 1 (.slice A 9 c) 9 (cel (1 :: digs a 8)) ∧ Below w.heap.size w w' := by
  obtain ⟨i0, hi, hz0, hz1, hz2⟩ := info_parts Tryd.info5
  have H : Hid (mayB 1 a 0 = true) := by simp [Hid, mayB]
  have HA := Lib.hid ha
  clear ha
  go_enter Tryd.func61, Tryd.ntmps61
  go_wp2_with fail
  refine (r3may_v _ _ _ _ _ H.out).mono ?_
  rintro e w1 ⟨rfl, hb1⟩
  have S1 := Lib.hid ((Sx.start w).newV hb1)
  clear hb1
  obtain ⟨-, ⟨z0, z1, z2, z3, -⟩, -⟩ := S1.out
  go_wp2_with fail
  clear z0 z1 z2 z3
  have O1 : Hid ((w1.alloc (.cells #[.int .u8 1] 5)).ownsRow w1.heap.size 5 1 (.slice (some ⟨w1.heap.size, 0, none⟩) 1 1) 1 (cel [1])) := World.ownsRow_lit (base := w1.heap.size) (e := 5) (size := 1) w1 #[.int .u8 1] 1 (Nat.le_refl _) (by unfold maxLen; simp) (by simp)
  refine (rsig_any a _ HA.out.1 HA.out.2).mono ?_
  rintro e w2 ⟨A2, c2, rfl, ho2, hb2⟩
  have R2 := Lib.hid (own_rd ho2 (byt_digs _ _))
  have O2 := Lib.hid (own_below O1.out hb2 (Nat.le_refl _))
  have B2 := Lib.hid (below1 hb2)
  clear hb2 ho2 O1
  go_wp2_with (at_builtin; refine wpList_append_rd _ rfl _ _ 28 rfl w1.heap.size 5 i0 Tryd.underlying28 hi hz0 hz1 hz2 _ 1 [1] rfl O2.out A2 8 c2 (digs a 8) rfl R2.out (length_digs _ _).symm (by omega) B2.out.size ?_; intro A5 c5 w5 ho5 hg5 hb5 _)
  go_ret2
  exact ⟨A5, c5, rfl, own_base (by simpa using ho5) S1.out.1.size, below_on S1.out.1 (B2.out.trans hb5)⟩
set_option maxHeartbeats 1000000 in
theorem r3bytes_2 (a b : Int) (w : World) (h : okB a b = true) : Calls Tryd.prog 61 #[.agg #[.int .u8 2, .int .i64 a, .int .i64 b]] w fun e w' => ∃ A c, e = .returned (.tuple #[.slice A 7 c, .int .i64 0]) ∧
      w'.ownsRow w.heap.size 5 1 (.slice A 7 c) 7 (cel (2 :: (digs (a + 1048576) 3 ++ digs (b + 1048576) 3))) ∧ Below w.heap.size w w' := by
  obtain ⟨i0, hi, hz0, hz1, hz2⟩ := info_parts Tryd.info5
  obtain ⟨⟨a1, a2⟩, b1, b2⟩ := okB_iff.1 h
  have H : Hid (mayB 2 a b = true) := by simp [Hid, mayB, h]
  have PA : Hid (putE 3 (a + 1048576) = 0 ∧ putL 3 (a + 1048576) = digs (a + 1048576) 3) := put_yes (k := 3) (by omega) (by omega) (by omega) (by rw [p256_3]; omega)
  have PB : Hid (putE 3 (b + 1048576) = 0 ∧ putL 3 (b + 1048576) = digs (b + 1048576) 3) := put_yes (k := 3) (by omega) (by omega) (by omega) (by rw [p256_3]; omega)
  clear h
  go_enter Tryd.func61, Tryd.ntmps61
  go_wp2_with fail
  refine (r3may_v _ _ _ _ _ H.out).mono ?_
  rintro e w1 ⟨rfl, hb1⟩
  have S1 := Lib.hid ((Sx.start w).newV hb1)
  clear hb1
  obtain ⟨-, ⟨z0, z1, z2, z3, -⟩, -⟩ := S1.out
  go_wp2_with fail
  clear z0 z1 z2 z3
  refine (rput_any 3 (a + 1048576) _ (by omega)).mono ?_
  rintro e w2 ⟨A2, c2, rfl, ho2, hb2⟩
  rw [PA.out.1, PA.out.2, length_digs]
  rw [PA.out.2, length_digs] at ho2
  have S2 := Lib.hid ((S1.out.call hb2).add (fR A2 c2 _) (own_rd ho2 (byt_digs _ _)))
  clear hb2 ho2 S1
  obtain ⟨-, -, ⟨z0, z1, z2, z3, -⟩, -⟩ := S2.out
  go_wp2_with fail
  clear z0 z1 z2 z3
  refine (rput_any 3 (b + 1048576) _ (by omega)).mono ?_
  rintro e w3 ⟨A3, c3, rfl, ho3, hb3⟩
  rw [PB.out.1, PB.out.2, length_digs]
  rw [PB.out.2, length_digs] at ho3
  have S3 := Lib.hid ((S2.out.call hb3).add (fR A3 c3 _) (own_rd ho3 (byt_digs _ _)))
  clear hb3 ho3 S2
  have O1 : Hid ((w3.alloc (.cells #[.int .u8 2] 5)).ownsRow w3.heap.size 5 1 (.slice (some ⟨w3.heap.size, 0, none⟩) 1 1) 1 (cel [2])) := World.ownsRow_lit (base := w3.heap.size) (e := 5) (size := 1) w3 #[.int .u8 2] 1 (Nat.le_refl _) (by unfold maxLen; simp) (by simp)
  go_wp2_with (at_builtin; refine wpList_append_rd _ rfl (.tmp 33) (.tmp 34) 28 rfl w3.heap.size 5 i0 Tryd.underlying28 hi hz0 hz1 hz2 _ 1 [2] rfl O1.out A2 3 c2 (digs (a + 1048576) 3) rfl (Rd.alloc S3.out.2.2.1 _) (length_digs _ _).symm (by omega) new1.size ?_)
  intro A4 c4 w4 ho4 _ hb4 _
  have O4 := Lib.hid ho4
  have B4 := Lib.hid (new1.trans hb4)
  clear ho4 hb4 O1
  go_wp2_with (at_builtin; refine wpList_append_rd _ rfl (.tmp 35) (.tmp 36) 28 rfl w3.heap.size 5 i0 Tryd.underlying28 hi hz0 hz1 hz2 _ 4 (2 :: digs (a + 1048576) 3) rfl O4.out A3 3 c3 (digs (b + 1048576) 3) rfl (Rd.keep S3.out.2.1 B4.out) (length_digs _ _).symm (by omega) B4.out.size ?_)
  intro A5 c5 w5 ho5 _ hb5 _
  go_wp2_with fail
  go_ret2
  exact ⟨A5, c5, rfl, own_base (by simpa using ho5) S3.out.1.size, below_on S3.out.1 (B4.out.trans hb5)⟩
theorem r3bytes_v (k a b e0 : Int) (L : List Int) (n : Nat) (w : World) (ha : -9223372036854775808 ≤ a ∧ a ≤ 9223372036854775807) (h : bytE k a b = e0 ∧ bytL k a b = L ∧ L.length = n) : Calls Tryd.prog 61 #[.agg #[.int .u8 k, .int .i64 a, .int .i64 b]] w fun e w' => ∃ A c, e = .returned (.tuple #[.slice A n c, .int .i64 e0]) ∧
      w'.ownsRow w.heap.size 5 1 (.slice A n c) n (cel L) ∧ Below w.heap.size w w' := by
  obtain ⟨rfl, rfl, rfl⟩ := h
  unfold bytE bytL
  cases hm : mayB k a b with
  | false =>
    refine (r3bytes_f k a b w hm).mono ?_
    rintro e w' ⟨rfl, hb⟩
    exact ⟨none, 0, rfl, World.ownsRow_nil _ _ _ _, hb⟩
  | true =>
    by_cases h1 : k = 1
    · subst h1
      have h0 : b = 0 := by simpa [mayB] using hm
      subst h0
      rw [if_pos rfl, valB, if_pos rfl]
      have e : (1 :: digs a 8).length = 9 := by simp [length_digs]
      rw [if_pos rfl, e]
      exact r3bytes_1 a w ha
    · have h2 : k = 2 ∧ okB a b = true := by simpa [mayB, h1] using hm
      obtain ⟨rfl, h2⟩ := h2
      rw [if_pos rfl, valB, if_neg (by decide)]
      have e : (2 :: (digs (a + 1048576) 3 ++ digs (b + 1048576) 3)).length = 7 := by simp [length_digs]
      rw [if_pos rfl, e]
      exact r3bytes_2 a b w h2
end Go.Proofs.YteimpkjpoijhmaaDoor
namespace Go.Proofs.YteimpkjpoijhmaaDoor
open Go.RowKit
set_option linter.unusedSimpArgs false
set_option linter.unusedVariables false

set_option maxRecDepth 100000 in
set_option maxHeartbeats 1000000 in
theorem rr_a1 (A : Option Addr) (c : Nat) (l : List Int) (p : Int) (w : World) (hr : Rd w A c l) (hl : l.length ≤ 2000) (hp : p < 0) : Calls Tryd.prog 71 #[.slice A l.length c, .int .i64 p] w fun e w' => e = .returned (.tuple #[.agg #[.int .u8 0, .int .i64 0, .int .i64 0], .int .i64 0, .int .i64 2]) ∧ Below w.heap.size w w' := by
  have HR := Lib.hid hr
  have HL := Lib.hid hl
  have hlen := hr.len
  have hlc := hr.le
  have hcap := hr.cap
  clear hr
  go_enter Tryd.func71, Tryd.ntmps71
  go_wp2_with fail
  exact bodyPost_ret (v := .tuple #[.agg #[.int .u8 0, .int .i64 0, .int .i64 0], .int .i64 0, .int .i64 2]) (by simp [results, Tryd.results71, go_sem]) rfl ⟨rfl, new1⟩
set_option maxRecDepth 100000 in
set_option maxHeartbeats 1000000 in
theorem rr_a2 (A : Option Addr) (c : Nat) (l : List Int) (p : Int) (w : World) (hr : Rd w A c l) (hl : l.length ≤ 2000) (hp : (l.length : Int) < p) : Calls Tryd.prog 71 #[.slice A l.length c, .int .i64 p] w fun e w' => e = .returned (.tuple #[.agg #[.int .u8 0, .int .i64 0, .int .i64 0], .int .i64 0, .int .i64 2]) ∧ Below w.heap.size w w' := by
  have HR := Lib.hid hr
  have HL := Lib.hid hl
  have hlen := hr.len
  have hlc := hr.le
  have hcap := hr.cap
  clear hr
  have hp0 : 0 ≤ p := by omega
  go_enter Tryd.func71, Tryd.ntmps71
  go_wp2_with fail
  exact bodyPost_ret (v := .tuple #[.agg #[.int .u8 0, .int .i64 0, .int .i64 0], .int .i64 0, .int .i64 2]) (by simp [results, Tryd.results71, go_sem]) rfl ⟨rfl, new1⟩
set_option maxRecDepth 100000 in
set_option maxHeartbeats 1000000 in
theorem rr_a3 (A : Option Addr) (c : Nat) (l : List Int) (p : Int) (w : World) (hr : Rd w A c l) (hl : l.length ≤ 2000) (hp : (l.length : Int) = p) : Calls Tryd.prog 71 #[.slice A l.length c, .int .i64 p] w fun e w' => e = .returned (.tuple #[.agg #[.int .u8 0, .int .i64 0, .int .i64 0], .int .i64 0, .int .i64 10]) ∧ Below w.heap.size w w' := by
  have HR := Lib.hid hr
  have HL := Lib.hid hl
  have hlen := hr.len
  have hlc := hr.le
  have hcap := hr.cap
  clear hr
  subst hp
  go_enter Tryd.func71, Tryd.ntmps71
  go_wp2_with fail
  exact bodyPost_ret (v := .tuple #[.agg #[.int .u8 0, .int .i64 0, .int .i64 0], .int .i64 0, .int .i64 10]) (by simp [results, Tryd.results71, go_sem]) rfl ⟨rfl, new1⟩
set_option maxRecDepth 100000 in
set_option maxHeartbeats 1000000 in
theorem rr_o (A : Option Addr) (c : Nat) (l : List Int) (q : Nat) (w : World) (hr : Rd w A c l) (hl : l.length ≤ 2000) (hq : q < l.length) (h1 : (l[q]?.getD 0 == 1) = false) (h2 : (l[q]?.getD 0 == 2) = false) : Calls Tryd.prog 71 #[.slice A l.length c, .int .i64 q] w fun e w' => e = .returned (.tuple #[.agg #[.int .u8 0, .int .i64 0, .int .i64 0], .int .i64 0, .int .i64 30]) ∧ Below w.heap.size w w' := by
  have HR := Lib.hid hr
  have HL := Lib.hid hl
  have hlen := hr.len
  have hlc := hr.le
  have hcap := hr.cap
  clear hr
  obtain ⟨ad, rfl, hcell⟩ := (HR.out.alloc (.cells #[.int .u8 0, .int .i64 0, .int .i64 0] 67)).at_ hq
  have hq' : (q : Int) < (l.length : Int) := by omega
  have hqn : ((q : Int) == (l.length : Int)) = false := by simp; omega
  have hq0 : (0 : Int) ≤ (q : Int) := by omega
  clear hq hl
  go_enter Tryd.func71, Tryd.ntmps71
  go_wp2_with fail
  exact bodyPost_ret (v := .tuple #[.agg #[.int .u8 0, .int .i64 0, .int .i64 0], .int .i64 0, .int .i64 30]) (by simp [results, Tryd.results71, go_sem]) rfl ⟨rfl, new1⟩
set_option maxRecDepth 100000 in
set_option maxHeartbeats 1000000 in
theorem rr_1s (A : Option Addr) (c : Nat) (l : List Int) (q : Nat) (w : World) (hr : Rd w A c l) (hl : l.length ≤ 2000) (hq : q < l.length) (hk : l[q]?.getD 0 = 1) (hs : l.length < q + 9) : Calls Tryd.prog 71 #[.slice A l.length c, .int .i64 q] w fun e w' => e = .returned (.tuple #[.agg #[.int .u8 0, .int .i64 0, .int .i64 0], .int .i64 0, .int .i64 10]) ∧ Below w.heap.size w w' := by
  have HR := Lib.hid hr
  have HL := Lib.hid hl
  have hlen := hr.len
  have hlc := hr.le
  have hcap := hr.cap
  clear hr
  obtain ⟨ad, rfl, hcell⟩ := (HR.out.alloc (.cells #[.int .u8 0, .int .i64 0, .int .i64 0] 67)).at_ hq
  have hq' : (q : Int) < (l.length : Int) := by omega
  have hqn : ((q : Int) == (l.length : Int)) = false := by simp; omega
  have hq0 : (0 : Int) ≤ (q : Int) := by omega
  have E : Hid (cutE l ((q : Int) + 1) 8 = 10) := (cut_short (l := l) (p := (q : Int) + 1) (n := 8) (by omega) (by omega) (by omega)).1
  rw [hk] at hcell
  clear hk hq hl hs
  go_enter Tryd.func71, Tryd.ntmps71
  go_wp2_with fail
  refine (rgsig_any (some ad) c l ((q : Int) + 1) _ (HR.out.alloc _) HL.out).mono ?_
  rintro e w1 ⟨rfl, rfl⟩
  rw [E.out]
  go_wp2_with fail
  exact bodyPost_ret (v := .tuple #[.agg #[.int .u8 0, .int .i64 0, .int .i64 0], .int .i64 0, .int .i64 10]) (by simp [results, Tryd.results71, go_sem]) rfl ⟨rfl, new1⟩
set_option maxRecDepth 100000 in
set_option maxHeartbeats 1000000 in
theorem rr_1 (A : Option Addr) (c : Nat) (l : List Int) (q : Nat) (x n : Int) (w : World) (hr : Rd w A c l) (hl : l.length ≤ 2000) (hq : q < l.length) (hk : l[q]?.getD 0 = 1) (hx : sigV l ((q : Int) + 1) = x ∧ cutN l ((q : Int) + 1) 8 = n ∧ cutE l ((q : Int) + 1) 8 = 0) : Calls Tryd.prog 71 #[.slice A l.length c, .int .i64 q] w fun e w' => e = .returned (.tuple #[.agg #[.int .u8 1, .int .i64 x, .int .i64 0], .int .i64 n, .int .i64 0]) ∧ Below w.heap.size w w' := by
  have HR := Lib.hid hr
  have HL := Lib.hid hl
  have hlen := hr.len
  have hlc := hr.le
  have hcap := hr.cap
  clear hr
  obtain ⟨ad, rfl, hcell⟩ := (HR.out.alloc (.cells #[.int .u8 0, .int .i64 0, .int .i64 0] 67)).at_ hq
  have hq' : (q : Int) < (l.length : Int) := by omega
  have hqn : ((q : Int) == (l.length : Int)) = false := by simp; omega
  have hq0 : (0 : Int) ≤ (q : Int) := by omega
  have E := Lib.hid hx
  rw [hk] at hcell
  clear hk hq hl hx
  go_enter Tryd.func71, Tryd.ntmps71
  go_wp2_with fail
  refine (rgsig_any (some ad) c l ((q : Int) + 1) _ (HR.out.alloc _) HL.out).mono ?_
  rintro e w1 ⟨rfl, rfl⟩
  rw [E.out.1, E.out.2.1, E.out.2.2]
  go_wp2_with fail
  exact bodyPost_ret (v := .tuple #[.agg #[.int .u8 1, .int .i64 x, .int .i64 0], .int .i64 n, .int .i64 0]) (by simp [results, Tryd.results71, go_sem]) rfl ⟨rfl, new1⟩
set_option maxRecDepth 100000 in
set_option maxHeartbeats 1000000 in
theorem rr_2s (A : Option Addr) (c : Nat) (l : List Int) (q : Nat) (w : World) (hr : Rd w A c l) (hl : l.length ≤ 2000) (hq : q < l.length) (hk : l[q]?.getD 0 = 2) (hs : l.length < q + 7) : Calls Tryd.prog 71 #[.slice A l.length c, .int .i64 q] w fun e w' => e = .returned (.tuple #[.agg #[.int .u8 0, .int .i64 0, .int .i64 0], .int .i64 0, .int .i64 10]) ∧ Below w.heap.size w w' := by
  have HR := Lib.hid hr
  have HL := Lib.hid hl
  have hlen := hr.len
  have hlc := hr.le
  have hcap := hr.cap
  clear hr
  obtain ⟨ad, rfl, hcell⟩ := (HR.out.alloc (.cells #[.int .u8 0, .int .i64 0, .int .i64 0] 67)).at_ hq
  have hq' : (q : Int) < (l.length : Int) := by omega
  have hqn : ((q : Int) == (l.length : Int)) = false := by simp; omega
  have hq0 : (0 : Int) ≤ (q : Int) := by omega
  have hs' : (l.length : Int) - (q : Int) < 7 := by omega
  rw [hk] at hcell
  clear hk hq hl hs
  go_enter Tryd.func71, Tryd.ntmps71
  go_wp2_with fail
  exact bodyPost_ret (v := .tuple #[.agg #[.int .u8 0, .int .i64 0, .int .i64 0], .int .i64 0, .int .i64 10]) (by simp [results, Tryd.results71, go_sem]) rfl ⟨rfl, new1⟩
set_option maxRecDepth 100000 in
set_option maxHeartbeats 1000000 in
theorem rr_2x (A : Option Addr) (c : Nat) (l : List Int) (q : Nat) (x n y m : Int) (w : World) (hr : Rd w A c l) (hl : l.length ≤ 2000) (hq : q < l.length) (hk : l[q]?.getD 0 = 2) (hs : q + 7 ≤ l.length) (hx : getV l ((q : Int) + 1) 3 = x ∧ getN l ((q : Int) + 1) 3 = n ∧ getE l ((q : Int) + 1) 3 = 0) (hy : getV l ((q : Int) + 4) 3 = y ∧ getN l ((q : Int) + 4) 3 = m ∧ getE l ((q : Int) + 4) 3 = 0) (x0 : 0 ≤ x) (y0 : 0 ≤ y) (hb : 2097152 < x) : Calls Tryd.prog 71 #[.slice A l.length c, .int .i64 q] w fun e w' => e = .returned (.tuple #[.agg #[.int .u8 0, .int .i64 0, .int .i64 0], .int .i64 0, .int .i64 30]) ∧ Below w.heap.size w w' := by
  have HR := Lib.hid hr
  have HL := Lib.hid hl
  have hlen := hr.len
  have hlc := hr.le
  have hcap := hr.cap
  clear hr
  obtain ⟨ad, rfl, hcell⟩ := (HR.out.alloc (.cells #[.int .u8 0, .int .i64 0, .int .i64 0] 67)).at_ hq
  have hq' : (q : Int) < (l.length : Int) := by omega
  have hqn : ((q : Int) == (l.length : Int)) = false := by simp; omega
  have hq0 : (0 : Int) ≤ (q : Int) := by omega
  have hs' : (7 : Int) ≤ (l.length : Int) - (q : Int) := by omega
  have E := Lib.hid hx
  have E' := Lib.hid hy
  rw [hk] at hcell
  clear hk hq hl hx hy hs
  go_enter Tryd.func71, Tryd.ntmps71
  go_wp2_with fail
  refine (rget_any (some ad) c l ((q : Int) + 1) 3 _ (HR.out.alloc _) HL.out).mono ?_
  rintro e w1 ⟨rfl, rfl⟩
  rw [E.out.1, E.out.2.1, E.out.2.2]
  go_wp2_with fail
  refine (rget_any (some ad) c l ((q : Int) + 4) 3 _ (HR.out.alloc _) HL.out).mono ?_
  rintro e w2 ⟨rfl, rfl⟩
  rw [E'.out.1, E'.out.2.1, E'.out.2.2]
  go_wp2_with fail
  exact bodyPost_ret (v := .tuple #[.agg #[.int .u8 0, .int .i64 0, .int .i64 0], .int .i64 0, .int .i64 30]) (by simp [results, Tryd.results71, go_sem]) rfl ⟨rfl, new1⟩
set_option maxRecDepth 100000 in
set_option maxHeartbeats 1000000 in
theorem rr_2y (A : Option Addr) (c : Nat) (l : List Int) (q : Nat) (x n y m : Int) (w : World) (hr : Rd w A c l) (hl : l.length ≤ 2000) (hq : q < l.length) (hk : l[q]?.getD 0 = 2) (hs : q + 7 ≤ l.length) (hx : getV l ((q : Int) + 1) 3 = x ∧ getN l ((q : Int) + 1) 3 = n ∧ getE l ((q : Int) + 1) 3 = 0) (hy : getV l ((q : Int) + 4) 3 = y ∧ getN l ((q : Int) + 4) 3 = m ∧ getE l ((q : Int) + 4) 3 = 0) (x0 : 0 ≤ x) (y0 : 0 ≤ y) (ha : x ≤ 2097152) (hb : 2097152 < y) : Calls Tryd.prog 71 #[.slice A l.length c, .int .i64 q] w fun e w' => e = .returned (.tuple #[.agg #[.int .u8 0, .int .i64 0, .int .i64 0], .int .i64 0, .int .i64 30]) ∧ Below w.heap.size w w' := by
  have HR := Lib.hid hr
  have HL := Lib.hid hl
  have hlen := hr.len
  have hlc := hr.le
  have hcap := hr.cap
  clear hr
  obtain ⟨ad, rfl, hcell⟩ := (HR.out.alloc (.cells #[.int .u8 0, .int .i64 0, .int .i64 0] 67)).at_ hq
  have hq' : (q : Int) < (l.length : Int) := by omega
  have hqn : ((q : Int) == (l.length : Int)) = false := by simp; omega
  have hq0 : (0 : Int) ≤ (q : Int) := by omega
  have hs' : (7 : Int) ≤ (l.length : Int) - (q : Int) := by omega
  have E := Lib.hid hx
  have E' := Lib.hid hy
  rw [hk] at hcell
  clear hk hq hl hx hy hs
  have hd : decide (2097152 < x) = false := by simp; omega
  go_enter Tryd.func71, Tryd.ntmps71
  go_wp2_with fail
  refine (rget_any (some ad) c l ((q : Int) + 1) 3 _ (HR.out.alloc _) HL.out).mono ?_
  rintro e w1 ⟨rfl, rfl⟩
  rw [E.out.1, E.out.2.1, E.out.2.2]
  go_wp2_with fail
  refine (rget_any (some ad) c l ((q : Int) + 4) 3 _ (HR.out.alloc _) HL.out).mono ?_
  rintro e w2 ⟨rfl, rfl⟩
  rw [E'.out.1, E'.out.2.1, E'.out.2.2]
  go_wp2_with fail
  exact bodyPost_ret (v := .tuple #[.agg #[.int .u8 0, .int .i64 0, .int .i64 0], .int .i64 0, .int .i64 30]) (by simp [results, Tryd.results71, go_sem]) rfl ⟨rfl, new1⟩
set_option maxRecDepth 100000 in
set_option maxHeartbeats 1000000 in
theorem rr_2 (A : Option Addr) (c : Nat) (l : List Int) (q : Nat) (x n y m : Int) (w : World) (hr : Rd w A c l) (hl : l.length ≤ 2000) (hq : q < l.length) (hk : l[q]?.getD 0 = 2) (hs : q + 7 ≤ l.length) (hx : getV l ((q : Int) + 1) 3 = x ∧ getN l ((q : Int) + 1) 3 = n ∧ getE l ((q : Int) + 1) 3 = 0) (hy : getV l ((q : Int) + 4) 3 = y ∧ getN l ((q : Int) + 4) 3 = m ∧ getE l ((q : Int) + 4) 3 = 0) (x0 : 0 ≤ x) (y0 : 0 ≤ y) (ha : x ≤ 2097152) (hb : y ≤ 2097152) : Calls Tryd.prog 71 #[.slice A l.length c, .int .i64 q] w fun e w' => e = .returned (.tuple #[.agg #[.int .u8 2, .int .i64 (x - 1048576), .int .i64 (y - 1048576)], .int .i64 ((q : Int) + 7), .int .i64 0]) ∧ Below w.heap.size w w' := by
  have HR := Lib.hid hr
  have HL := Lib.hid hl
  have hlen := hr.len
  have hlc := hr.le
  have hcap := hr.cap
  clear hr
  obtain ⟨ad, rfl, hcell⟩ := (HR.out.alloc (.cells #[.int .u8 0, .int .i64 0, .int .i64 0] 67)).at_ hq
  have hq' : (q : Int) < (l.length : Int) := by omega
  have hqn : ((q : Int) == (l.length : Int)) = false := by simp; omega
  have hq0 : (0 : Int) ≤ (q : Int) := by omega
  have hs' : (7 : Int) ≤ (l.length : Int) - (q : Int) := by omega
  have E := Lib.hid hx
  have E' := Lib.hid hy
  rw [hk] at hcell
  clear hk hq hl hx hy hs
  go_enter Tryd.func71, Tryd.ntmps71
  go_wp2_with fail
  refine (rget_any (some ad) c l ((q : Int) + 1) 3 _ (HR.out.alloc _) HL.out).mono ?_
  rintro e w1 ⟨rfl, rfl⟩
  rw [E.out.1, E.out.2.1, E.out.2.2]
  go_wp2_with fail
  refine (rget_any (some ad) c l ((q : Int) + 4) 3 _ (HR.out.alloc _) HL.out).mono ?_
  rintro e w2 ⟨rfl, rfl⟩
  rw [E'.out.1, E'.out.2.1, E'.out.2.2]
  go_wp2_with fail
  exact bodyPost_ret (v := .tuple #[.agg #[.int .u8 2, .int .i64 (x - 1048576), .int .i64 (y - 1048576)], .int .i64 ((q : Int) + 7), .int .i64 0]) (by simp [results, Tryd.results71, go_sem]) rfl ⟨rfl, new1⟩

theorem r3read_v (A : Option Addr) (c : Nat) (l : List Int) (p k a b n e0 : Int) (w : World) (hr : Rd w A c l) (hl : l.length ≤ 2000) (h : rdT l p = (k, a, b, n, e0)) :
    Calls Tryd.prog 71 #[.slice A l.length c, .int .i64 p] w fun e w' => e = .returned (.tuple #[.agg #[.int .u8 k, .int .i64 a, .int .i64 b], .int .i64 n, .int .i64 e0]) ∧ Below w.heap.size w w' := by
  have hb := hr.byt
  unfold rdT at h
  split at h
  · rename_i hp
    obtain ⟨rfl, rfl, rfl, rfl, rfl⟩ := by simpa using h
    rcases hp with hp | hp
    · exact rr_a1 A c l p w hr hl hp
    · exact rr_a2 A c l p w hr hl hp
  · rename_i hp
    split at h
    · rename_i hp2
      obtain ⟨rfl, rfl, rfl, rfl, rfl⟩ := by simpa using h
      exact rr_a3 A c l p w hr hl hp2
    · rename_i hp2
      obtain ⟨q, rfl⟩ : ∃ q : Nat, p = q := ⟨p.toNat, by omega⟩
      rw [Int.toNat_natCast] at h
      have hq : q < l.length := by omega
      have e1 : ((q : Int) + 1) = ((q + 1 : Nat) : Int) := by omega
      split at h
      · rename_i hk
        split at h
        · rename_i hs
          obtain ⟨rfl, rfl, rfl, rfl, rfl⟩ := by simpa using h
          exact rr_1s A c l q w hr hl hq hk hs
        · rename_i hs
          obtain ⟨rfl, rfl, rfl, rfl, rfl⟩ := by simpa using h
          obtain ⟨c1, c2, c3⟩ := cut_yes (l := l) (p := (q : Int) + 1) (n := 8) (by omega) (by omega) (by omega)
          refine rr_1 A c l q _ _ w hr hl hq hk ⟨?_, ?_, c1⟩
          · rw [sigV, c2, e1]; rfl
          · rw [c3]; omega
      · rename_i hk1
        split at h
        · rename_i hk
          split at h
          · rename_i hs
            obtain ⟨rfl, rfl, rfl, rfl, rfl⟩ := by simpa using h
            exact rr_2s A c l q w hr hl hq hk hs
          · rename_i hs
            have g2 := get3 hb (a := q + 1) (by omega)
            have g3 := get3 hb (a := q + 4) (by omega)
            have e4 : ((q + 4 : Nat) : Int) = (q : Int) + 4 := by omega
            rw [← e1] at g2
            rw [e4] at g3
            have x0 := (x3_bd hb (q + 1)).1
            have y0 := (x3_bd hb (q + 4)).1
            split at h
            · rename_i hm
              obtain ⟨rfl, rfl, rfl, rfl, rfl⟩ := by simpa using h
              have ho := okB_iff.1 (show okB (x3 l (q + 1) - 1048576) (x3 l (q + 4) - 1048576) = true by simpa [mayB] using hm)
              exact rr_2 A c l q _ _ _ _ w hr hl hq hk (by omega) g2 g3 x0 y0 (by omega) (by omega)
            · rename_i hm
              obtain ⟨rfl, rfl, rfl, rfl, rfl⟩ := by simpa using h
              by_cases hx : 2097152 < x3 l (q + 1)
              · exact rr_2x A c l q _ _ _ _ w hr hl hq hk (by omega) g2 g3 x0 y0 hx
              · by_cases hy : 2097152 < x3 l (q + 4)
                · exact rr_2y A c l q _ _ _ _ w hr hl hq hk (by omega) g2 g3 x0 y0 (by omega) hy
                · exfalso
                  apply hm
                  have : okB (x3 l (q + 1) - 1048576) (x3 l (q + 4) - 1048576) = true := okB_iff.2 (by omega)
                  simp [mayB, this]
        · rename_i hk2
          obtain ⟨rfl, rfl, rfl, rfl, rfl⟩ := by simpa using h
          exact rr_o A c l q w hr hl hq (by simpa using hk1) (by simpa using hk2)
end Go.Proofs.YteimpkjpoijhmaaDoor
