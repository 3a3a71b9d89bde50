/-
  Law FrameTurns of layer 16.
-/
import Derived.Test.YtkifapnmojfjoaaUk
import Derived.Test.YtkifapnmojfjoaaFrb
namespace Go.Proofs.Ytkifapnmojfjoaa
open Go.RowKit
set_option maxRecDepth 100000
set_option linter.unusedSimpArgs false
set_option linter.unusedVariables false

theorem tb16 {f : Fm} {x n : Int} (h : 0 ≤ n) : (bF16 f x n).t x = n := by
  show (if x = x then (if 0 < n then n else 0) else f.t x) = n
  rw [if_pos rfl]
  split <;> omega
theorem tb16o {f : Fm} {x y n : Int} (h : y ≠ x) : (bF16 f x n).t y = f.t y := if_neg h
theorem ta16 {f : Fm} {x : Int} (h : 0 < f.t x) : (aF16 f x).t x = f.t x - 1 := by
  rw [aF16, if_pos (show aB16 f x = true from decide_eq_true h), tb16 (by omega)]
theorem ta16z {f : Fm} {x : Int} (h : ¬ 0 < f.t x) : aF16 f x = f := by
  rw [aF16, if_neg (by rw [aB16, decide_eq_true_eq]; exact h)]
theorem ta16o {f : Fm} {x y : Int} (h : y ≠ x) : (aF16 f x).t y = f.t y := by
  rw [aF16]
  split
  · exact tb16o h
  · rfl
theorem Two15.put {w0 w : World} {S : Th15} {P Q t u : Nat} {cs ds : Array Value} (h : Two15 w0 w S (and15 (tB15 P cs t) (tB15 Q ds u))) (hne : Q ≠ P) (i : Nat) (v : Value) : Two15 w0 (w.setCell ⟨P, i, none⟩ v) S (and15 (tB15 P (cs.setIfInBounds i v) t) (tB15 Q ds u)) := by
  have hs : Fr11 (fun j => j = P) w (w.setCell ⟨P, i, none⟩ v) := (Fr11.refl (fun j => j = P) w).set (p := ⟨P, i, none⟩) (.inr rfl) _
  refine h.right (T' := and15 (tB15 P (cs.setIfInBounds i v) t) (tB15 Q ds u)) ⟨?_, ?_⟩ (hs.mono fun j hj => .inl hj) fun j hj => .inl hj
  · show (w.setCell ⟨P, i, none⟩ v).heap[P]? = _
    rw [heap_setCell_same w P i _ _ _ h.t.1]
  · exact (hs.block Q (Array.getElem?_eq_some_iff.1 h.t.2).1 hne).trans h.t.2
theorem ar16 {w : World} {P t : Nat} {a b : Int} (h : w.heap[P]? = some (.cells #[.int .i64 a, .int .i64 b] t (0, 0))) : w.cell? ⟨P, 0, none⟩ = some (.int .i64 a) ∧ w.cell? ⟨P, 1, none⟩ = some (.int .i64 b) ∧ ∀ j, w.frozen? ⟨P, j, none⟩ = false := by
  refine ⟨?_, ?_, fun j => frozen_of_row w P j _ _ h⟩ <;> simp [World.cell?, h]
theorem Two15.one {w0 w : World} {S : Th15} (h : Two15 w0 w S tN15) (cs : Array Value) (t : TypeId) : Two15 w0 (w.alloc (.cells cs t)) S (tB15 w.heap.size cs t) :=
  h.right (T' := tB15 w.heap.size cs t) (World.alloc_heap_new _ _) ((Fr11.refl _ _).alloc _) (fun j hj => .inr (Nat.le_of_eq hj.symm))
set_option maxHeartbeats 16000000 in
theorem turns16_walk (C : KF16) (one two n m : Int) (A : Option Addr) (k c : Nat) (W : List Bool) (w : World) (ho1 : -9223372036854775808 ≤ one ∧ one ≤ 9223372036854775807) (ho2 : -9223372036854775808 ≤ two ∧ two ≤ 9223372036854775807) (hn : 0 ≤ n ∧ n < 65536) (hm : 0 ≤ m ∧ m < 65536) (hr : Rb9 w A c W) (hk : W.length = k) :
    Calls Try.prog 6 #[.int .i64 one, .int .i64 two, .int .u16 n, .int .u16 m, .slice A k c] w fun e w' => e = .returned (.bool true) ∧ Below w.heap.size w w' := by
  have HR := Lib.hid hr
  have HK := Lib.hid hk
  have HO1 := Lib.hid ho1
  have HO2 := Lib.hid ho2
  clear ho1 ho2
  have HA := Lib.hid (awake16_any C w)
  obtain ⟨hn0, hn1⟩ := hn
  obtain ⟨hm0, hm1⟩ := hm
  clear hr hk
  by_cases g0 : one = two
  · go_enter Try.func6, Try.ntmps6
    go_wp2_with fail
    refine HA.out.mono ?_
    rintro e w1 ⟨rfl, hb⟩
    go_wp2_with fail
    go_ret
    exact ⟨rfl, hb⟩
  · by_cases g1 : 700 < k
    · go_enter Try.func6, Try.ntmps6
      go_wp2_with fail
      refine HA.out.mono ?_
      rintro e w1 ⟨rfl, hb⟩
      go_wp2_with fail
      go_ret
      exact ⟨rfl, hb⟩
    · have q0 : (one == two) = false := by simp [g0]
      have q1 : decide (700 < (k : Int)) = false := decide_eq_false (by omega)
      go_enter Try.func6, Try.ntmps6
      go_wp2_with fail
      refine HA.out.mono ?_
      rintro e w1 ⟨rfl, hb⟩
      have HB1 := Lib.hid hb
      clear hb HA
      have N1 := Lib.hid (C.new none none none 0 0 0 0 0 0 [] [] [] w1 (Rd.none_ _) (Rd.none_ _) (Rv.none_ _) rfl rfl rfl (by omega) (by omega) (by omega))
      go_wp2_with fail
      refine N1.out.mono ?_
      rintro e w2 ⟨hb, hr⟩
      rcases hr with ⟨hn, _⟩ | ⟨_, B, X, rfl, hp, hx⟩
      · exact absurd hn (by decide)
      have T2 : Hid (Two15 w w2 (tK16 C X B (nF16 [] [])) tN15) := Lib.hid (Two15.left (S := tN15) (S' := tK16 C X B (nF16 [] [])) ⟨HB1.out, trivial, trivial, fun _ => False.elim, fun _ => False.elim, fun _ => False.elim⟩ hp (nb15 hb) (fun j hj => .inr (hx j hj)))
      clear hb hp hx N1 HB1
      go_upto_region 9 with (fail)
      have T3 := Lib.hid (T2.out.one #[.int .i64 (n % 301), .int .i64 (m % 301)] 62)
      have hlt := (Array.getElem?_eq_some_iff.1 T3.out.t).1
      change Code.wp _ _ _ _ (w2.alloc (.cells #[.int .i64 (n % 301), .int .i64 (m % 301)] 62))
      generalize (w2.alloc (.cells #[.int .i64 (n % 301), .int .i64 (m % 301)] 62)) = w3 at T3 hlt ⊢
      generalize (w2.heap.size : Nat) = PL at T3 hlt ⊢
      clear T2
      go_upto_region 10 with (fail)
      have T4 := Lib.hid (T3.out.box #[.int .i64 one, .int .i64 two] 62)
      have HNE : Hid (w3.heap.size ≠ PL) := Lib.hid (by omega)
      change Code.wp _ _ _ _ (w3.alloc (.cells #[.int .i64 one, .int .i64 two] 62))
      generalize (w3.alloc (.cells #[.int .i64 one, .int .i64 two] 62)) = w4 at T4 ⊢
      generalize (w3.heap.size : Nat) = PQ at T4 HNE ⊢
      clear T3 hlt
      have hn3 : 0 ≤ n % 301 ∧ n % 301 < 301 := by omega
      have hm3 : 0 ≤ m % 301 ∧ m % 301 < 301 := by omega
      generalize n % 301 = a0 at T4 hn3 ⊢
      generalize m % 301 = b0 at T4 hm3 ⊢
      obtain ⟨l0, l1, lf⟩ := ar16 T4.out.t.1
      have G1 := Lib.hid (C.begin_ X B (nF16 [] []) one a0 w4 T4.out.s (by decide) HO1.out (by omega) (by omega))
      go_wp2_with fail
      refine G1.out.mono ?_
      rintro e w5 ⟨rfl, hu⟩
      obtain ⟨X1, ht, -, -⟩ := T4.out.leftU hu
      have T5 := Lib.hid ht
      clear hu ht G1 T4 l0 l1 lf
      obtain ⟨l0, l1, lf⟩ := ar16 T5.out.t.1
      have G1 := Lib.hid (C.begin_ X1 B (bF16 (nF16 [] []) one a0) two b0 w5 T5.out.s (by show 0 + 1 ≤ 90000; omega) HO2.out (by omega) (by omega))
      go_wp2_with fail
      refine G1.out.mono ?_
      rintro e w6 ⟨rfl, hu⟩
      obtain ⟨X2, ht, -, -⟩ := T5.out.leftU hu
      have T6 := Lib.hid ht
      clear hu ht G1 T5 l0 l1 lf
      have Ha0 : Hid ((bF16 (bF16 (nF16 [] []) one a0) two b0).t one = a0) := Lib.hid (by rw [tb16o g0, tb16 hn3.1])
      have Hb0 : Hid ((bF16 (bF16 (nF16 [] []) one a0) two b0).t two = b0) := Lib.hid (by rw [tb16 hm3.1])
      have HQ0 : Hid ((bF16 (bF16 (nF16 [] []) one a0) two b0).q ≤ 2) := Lib.hid (Nat.le_refl 2)
      generalize (bF16 (bF16 (nF16 [] []) one a0) two b0) = f0 at T6 Ha0 Hb0 HQ0
      go_wp2_with fail
      go_loopw [15] (fun iv wr => ∃ (i : Nat) (X : Nat → Prop) (f : Fm) (a b : Int), i ≤ k ∧ iv = .int .i64 i ∧ Hid (Two15 w wr (tK16 C X B f) (and15 (tB15 PL #[.int .i64 a, .int .i64 b] 62) (tB15 PQ #[.int .i64 one, .int .i64 two] 62))) ∧ Hid (f.t one = a) ∧ Hid (f.t two = b) ∧ Hid (f.q ≤ i + 2) ∧ 0 ≤ a ∧ a < 301 ∧ 0 ≤ b ∧ b < 301) (fun iv _ => k - (intOf iv).toNat)
      case atStart => exact ⟨0, X2, f0, a0, b0, by omega, rfl, T6, Ha0, Hb0, HQ0, hn3.1, hn3.2, hm3.1, hm3.2⟩
      case round =>
        clear T6 Ha0 Hb0 HQ0 hn3 hm3
        obtain ⟨i, X, f, a, b, hi, rfl, HT, Ha, Hb, HQ, ha0, ha1, hb0, hb1⟩ := hrel
        rename World => wr
        by_cases h1 : i < k
        · obtain ⟨ad, y, hA, hy⟩ := (HR.out.keep HT.out.be).at_ (i := i) (by rw [HK.out]; exact h1)
          subst hA
          obtain ⟨l0, l1, lf⟩ := ar16 HT.out.t.1
          obtain ⟨p0, p1, -⟩ := ar16 HT.out.t.2
          have lf0 := lf 0
          have lf1 := lf 1
          clear lf
          cases y with
          | false =>
            by_cases h2 : 0 < a
            · skip
              have TP := Lib.hid (HT.out.put HNE.out 0 (.int .i64 (a - 1)))
              have hsz : PL < wr.heap.size := cell_lt l0
              change Hid (Two15 w (wr.setCell ⟨PL, 0, none⟩ (.int .i64 (a - 1))) (tK16 C X B f) (and15 (tB15 PL #[.int .i64 (a - 1), .int .i64 (b)] 62) (tB15 PQ #[.int .i64 one, .int .i64 two] 62))) at TP
              obtain ⟨l0w, l1w, lfw⟩ := ar16 TP.out.t.1
              obtain ⟨p0w, p1w, -⟩ := ar16 TP.out.t.2
              have G1 := Lib.hid (C.again X B f one _ TP.out.s (by have := HQ.out; omega) HO1.out)
              have eM : aM16 f one = decide (0 < a - 1) := by rw [aM16, Ha.out]; exact decide_eq_decide.2 (by omega)
              have eB : aB16 f one = true := by rw [aB16, Ha.out]; exact decide_eq_true h2
              rw [eM, eB] at G1
              have Hn : Hid ((aF16 f one).t one = a - 1) := Lib.hid (by rw [ta16 (by rw [Ha.out]; exact h2), Ha.out])
              have Ho : Hid ((aF16 f one).t two = b) := Lib.hid (by rw [ta16o (by exact fun h => g0 h.symm), Hb.out])
              have HQ2 : Hid ((aF16 f one).q ≤ i + 3) := Lib.hid (by have := @q_a16 f one; have := HQ.out; omega)
              clear eM eB
              go_wp2_with fail
              refine G1.out.mono ?_
              rintro e w5 ⟨rfl, hu⟩
              obtain ⟨X1, ht, -, -⟩ := TP.out.leftU hu
              have T5 := Lib.hid ht
              obtain ⟨l0, l1, lf⟩ := ar16 T5.out.t.1
              clear hu ht G1 lf
              go_wp2_with fail
              go_roundw
              case rel => exact ⟨i + 1, X1, (aF16 f one), a - 1, b, by omega, by go_num, T5, Hn, Ho, Lib.hid (by have := HQ2.out; omega), by omega, by omega, by omega, by omega⟩
              case measure => simp [intOf]; omega
            · skip
              have G1 := Lib.hid (C.again X B f one wr HT.out.s (by have := HQ.out; omega) HO1.out)
              have eM : aM16 f one = false := by rw [aM16, Ha.out]; exact decide_eq_false (by omega)
              have eB : aB16 f one = false := by rw [aB16, Ha.out]; exact decide_eq_false h2
              rw [eM, eB, ta16z (by rw [Ha.out]; exact h2)] at G1
              clear eM eB
              go_wp2_with fail
              refine G1.out.mono ?_
              rintro e w5 ⟨rfl, hu⟩
              obtain ⟨X1, ht, -, -⟩ := HT.out.leftU hu
              have T5 := Lib.hid ht
              obtain ⟨l0, l1, lf⟩ := ar16 T5.out.t.1
              clear hu ht G1 lf
              go_wp2_with fail
              go_roundw
              case rel => exact ⟨i + 1, X1, f, a, b, by omega, by go_num, T5, Ha, Hb, Lib.hid (by have := HQ.out; omega), by omega, by omega, by omega, by omega⟩
              case measure => simp [intOf]; omega
          | true =>
            by_cases h2 : 0 < b
            · skip
              have TP := Lib.hid (HT.out.put HNE.out 1 (.int .i64 (b - 1)))
              have hsz : PL < wr.heap.size := cell_lt l1
              change Hid (Two15 w (wr.setCell ⟨PL, 1, none⟩ (.int .i64 (b - 1))) (tK16 C X B f) (and15 (tB15 PL #[.int .i64 (a), .int .i64 (b - 1)] 62) (tB15 PQ #[.int .i64 one, .int .i64 two] 62))) at TP
              obtain ⟨l0w, l1w, lfw⟩ := ar16 TP.out.t.1
              obtain ⟨p0w, p1w, -⟩ := ar16 TP.out.t.2
              have G1 := Lib.hid (C.again X B f two _ TP.out.s (by have := HQ.out; omega) HO2.out)
              have eM : aM16 f two = decide (0 < b - 1) := by rw [aM16, Hb.out]; exact decide_eq_decide.2 (by omega)
              have eB : aB16 f two = true := by rw [aB16, Hb.out]; exact decide_eq_true h2
              rw [eM, eB] at G1
              have Hn : Hid ((aF16 f two).t two = b - 1) := Lib.hid (by rw [ta16 (by rw [Hb.out]; exact h2), Hb.out])
              have Ho : Hid ((aF16 f two).t one = a) := Lib.hid (by rw [ta16o (by exact g0), Ha.out])
              have HQ2 : Hid ((aF16 f two).q ≤ i + 3) := Lib.hid (by have := @q_a16 f two; have := HQ.out; omega)
              clear eM eB
              go_wp2_with fail
              refine G1.out.mono ?_
              rintro e w5 ⟨rfl, hu⟩
              obtain ⟨X1, ht, -, -⟩ := TP.out.leftU hu
              have T5 := Lib.hid ht
              obtain ⟨l0, l1, lf⟩ := ar16 T5.out.t.1
              clear hu ht G1 lf
              go_wp2_with fail
              go_roundw
              case rel => exact ⟨i + 1, X1, (aF16 f two), a, b - 1, by omega, by go_num, T5, Ho, Hn, Lib.hid (by have := HQ2.out; omega), by omega, by omega, by omega, by omega⟩
              case measure => simp [intOf]; omega
            · skip
              have G1 := Lib.hid (C.again X B f two wr HT.out.s (by have := HQ.out; omega) HO2.out)
              have eM : aM16 f two = false := by rw [aM16, Hb.out]; exact decide_eq_false (by omega)
              have eB : aB16 f two = false := by rw [aB16, Hb.out]; exact decide_eq_false h2
              rw [eM, eB, ta16z (by rw [Hb.out]; exact h2)] at G1
              clear eM eB
              go_wp2_with fail
              refine G1.out.mono ?_
              rintro e w5 ⟨rfl, hu⟩
              obtain ⟨X1, ht, -, -⟩ := HT.out.leftU hu
              have T5 := Lib.hid ht
              obtain ⟨l0, l1, lf⟩ := ar16 T5.out.t.1
              clear hu ht G1 lf
              go_wp2_with fail
              go_roundw
              case rel => exact ⟨i + 1, X1, f, a, b, by omega, by go_num, T5, Ha, Hb, Lib.hid (by have := HQ.out; omega), by omega, by omega, by omega, by omega⟩
              case measure => simp [intOf]; omega
        · obtain rfl : i = k := by omega
          go_wp2_with fail
          go_ret
          exact ⟨rfl, HT.out.be⟩
end Go.Proofs.Ytkifapnmojfjoaa
