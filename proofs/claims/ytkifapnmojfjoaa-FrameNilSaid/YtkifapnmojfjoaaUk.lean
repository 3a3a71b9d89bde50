/-
  Layer 16's law: awake.
-/
import Derived.Test.YtkifapnmojfjoaaUj
namespace Go.Proofs.Ytkifapnmojfjoaa
open Go.RowKit
set_option maxRecDepth 100000
set_option linter.unusedSimpArgs false
set_option linter.unusedVariables false

theorem Two15.box {w0 w : World} {S T : Th15} (h : Two15 w0 w S T) (cs : Array Value) (t : TypeId) : Two15 w0 (w.alloc (.cells cs t)) S (and15 T (tB15 w.heap.size cs t)) :=
  h.right (T' := and15 T (tB15 w.heap.size cs t)) ⟨T.fr _ _ _ h.t (nb15 new1) (fun _ _ => id), World.alloc_heap_new _ _⟩ ((Fr11.refl _ _).alloc _) (fun j hj => hj.imp id (fun e => Nat.le_of_eq e.symm))
theorem bx16 {w : World} {P t : Nat} {v0 v1 v2 : Int} (h : w.heap[P]? = some (.cells #[.int .u8 v0, .int .i64 v1, .int .i64 v2] t (0, 0))) : w.cell? ⟨P, 0, none⟩ = some (.int .u8 v0) ∧ w.cell? ⟨P, 1, none⟩ = some (.int .i64 v1) ∧ w.cell? ⟨P, 2, none⟩ = some (.int .i64 v2) := by
  refine ⟨?_, ?_, ?_⟩ <;> simp [World.cell?, h]
abbrev F0k : Fm := nF16 [2] [(1, 5, 0)]
abbrev V5 : Array Value := #[.int .u8 1, .int .i64 5, .int .i64 0]
set_option maxHeartbeats 16000000 in
theorem awake16_any (C : KF16) (w : World) : Calls Try.prog 22 #[] w fun e w' => e = .returned (.bool true) ∧ Below w.heap.size w w' := by
  go_enter Try.func22, Try.ntmps22
  go_upto_region 2 with (fail)
  have T1 : Hid (Two15 w (w.alloc (.cells V5 33)) tN15 (and15 tN15 (tB15 w.heap.size V5 33))) := Lib.hid (Two15.box ⟨Below.refl _ _, trivial, trivial, fun _ => False.elim, fun _ => False.elim, fun _ => False.elim⟩ _ _)
  change Code.wp _ _ _ _ (w.alloc (.cells V5 33))
  generalize (w.alloc (.cells V5 33)) = w1 at T1 ⊢
  generalize (w.heap.size : Nat) = P5 at T1 ⊢
  obtain ⟨b0, b1, b2⟩ := bx16 T1.out.t.2
  have hl5 := cell_lt b0
  have HB5 := Lib.hid b0
  have N1 := Lib.hid (C.new (some ⟨w1.heap.size, 0, none⟩) (some ⟨w1.heap.size + 1, 0, none⟩) (some ⟨w1.heap.size + 2, 0, none⟩) 1 1 1 1 1 1 [1] [2] [(1, 5, 0)] (((w1.alloc (.cells #[.int .u8 1] 5)).alloc (.cells #[.int .u8 2] 5)).alloc (.cells #[.int .u8 1, .int .i64 5, .int .i64 0] 33)) ?_ ?_ ?_ rfl rfl rfl (by omega) (by omega) (by omega))
  rotate_left 1
  · exact ((rd_one w1 1 (by omega)).keep new1).keep new1
  · have := (rd_one (w1.alloc (.cells #[.int .u8 1] 5)) 2 (by omega)).keep (new1 (a := .cells #[.int .u8 1, .int .i64 5, .int .i64 0] 33))
    rw [size1] at this
    exact this
  · have := rv_new ((w1.alloc (.cells #[.int .u8 1] 5)).alloc (.cells #[.int .u8 2] 5)) (1, 5, 0) (by unfold VlOk; simp)
    rw [size1, size1] at this
    exact this
  go_wp2_with fail
  refine N1.out.mono ?_
  rintro e w2 ⟨hb, hr⟩
  rcases hr with ⟨hn, _⟩ | ⟨_, B, X, rfl, hp, hx⟩
  · exact absurd hn (by decide)
  have T2 : Hid (Two15 w w2 (tK16 C X B F0k) (and15 tN15 (tB15 P5 V5 33))) := Lib.hid ((T1.out.keep new3).left (S' := tK16 C X B F0k) hp (nb15 hb) (fun j hj => .inr (hx j hj)))
  clear hb hp hx N1 T1 b0 b1 b2 hl5 HB5
  have N2 := Lib.hid (C.new (some ⟨w2.heap.size, 0, none⟩) none none 1 0 0 1 0 0 [1] [] [] (w2.alloc (.cells #[.int .u8 1] 5)) (rd_one w2 1 (by omega)) (Rd.none_ _) (Rv.none_ _) rfl rfl rfl (by omega) (by omega) (by omega))
  go_wp2_with fail
  refine N2.out.mono ?_
  rintro e w3 ⟨hb, hr⟩
  rcases hr with ⟨_, rfl⟩ | ⟨hn, _⟩
  case inr => exact absurd hn (by decide)
  have T3 := Lib.hid ((T2.out.keep new1).keep hb)
  clear hb N2 T2
  have G1 := Lib.hid (C.get X B F0k 0 w3 T3.out.s)
  rw [show gV16 F0k 0 = (1, 5, 0) by decide, show gB16 F0k 0 = true by decide] at G1
  unfold va16 at G1
  dsimp only at G1
  go_wp2_with fail
  refine G1.out.mono ?_
  rintro e w4 ⟨rfl, hb⟩
  have T4 := Lib.hid (T3.out.keep hb)
  clear hb G1 T3
  go_upto_region 7 with (fail)
  have T5 := Lib.hid (T4.out.box V5 33)
  change Code.wp _ _ _ _ (w4.alloc (.cells V5 33))
  generalize (w4.alloc (.cells V5 33)) = w5 at T5 ⊢
  generalize (w4.heap.size : Nat) = P6 at T5 ⊢
  clear T4
  have G1 := Lib.hid (C.get X B F0k 1 w5 T5.out.s)
  rw [show gV16 F0k 1 = (2, 0, 0) by decide, show gB16 F0k 1 = true by decide] at G1
  unfold va16 at G1
  dsimp only at G1
  go_wp2_with fail
  refine G1.out.mono ?_
  rintro e w6 ⟨rfl, hb⟩
  have T6 := Lib.hid (T5.out.keep hb)
  clear hb G1 T5
  go_upto_region 8 with (fail)
  have T7 := Lib.hid (T6.out.box #[.int .u8 2, .int .i64 0, .int .i64 0] 33)
  change Code.wp _ _ _ _ (w6.alloc (.cells #[.int .u8 2, .int .i64 0, .int .i64 0] 33))
  generalize (w6.alloc (.cells #[.int .u8 2, .int .i64 0, .int .i64 0] 33)) = w7 at T7 ⊢
  generalize (w6.heap.size : Nat) = P8 at T7 ⊢
  clear T6
  obtain ⟨b0, b1, b2⟩ := bx16 T7.out.t.1.1.2
  have G1 := Lib.hid (C.set X B F0k 1 1 5 0 w7 T7.out.s (by unfold VlOk; simp))
  rw [show sB16 F0k 1 (1, 5, 0) = false by decide] at G1
  rw [show sF16 F0k 1 (1, 5, 0) = F0k from if_neg (by decide)] at G1
  go_wp2_with fail
  refine G1.out.mono ?_
  rintro e w8 ⟨rfl, hu⟩
  obtain ⟨X1, ht, -, -⟩ := T7.out.leftU hu
  have T8 := Lib.hid ht
  clear hu ht G1 T7 b0 b1 b2
  have G1 := Lib.hid (C.begin_ X1 B F0k 3 2 w8 T8.out.s (by decide) (by omega) (by omega) (by omega))
  go_wp2_with fail
  refine G1.out.mono ?_
  rintro e w9 ⟨rfl, hu⟩
  obtain ⟨X2, ht, -, -⟩ := T8.out.leftU hu
  have T9 := Lib.hid ht
  clear hu ht G1 T8
  have G1 := Lib.hid (C.again X2 B (bF16 F0k 3 2) 3 w9 T9.out.s (by decide) (by omega))
  rw [show aM16 ((bF16 F0k 3 2)) 3 = true by decide, show aB16 ((bF16 F0k 3 2)) 3 = true by decide] at G1
  go_wp2_with fail
  refine G1.out.mono ?_
  rintro e w10 ⟨rfl, hu⟩
  obtain ⟨X3, ht, -, -⟩ := T9.out.leftU hu
  have T10 := Lib.hid ht
  clear hu ht G1 T9
  have G1 := Lib.hid (C.again X3 B (aF16 (bF16 F0k 3 2) 3) 3 w10 T10.out.s (by decide) (by omega))
  rw [show aM16 ((aF16 (bF16 F0k 3 2) 3)) 3 = false by decide, show aB16 ((aF16 (bF16 F0k 3 2) 3)) 3 = true by decide] at G1
  go_wp2_with fail
  refine G1.out.mono ?_
  rintro e w11 ⟨rfl, hu⟩
  obtain ⟨X4, ht, -, -⟩ := T10.out.leftU hu
  have T11 := Lib.hid ht
  clear hu ht G1 T10
  have G1 := Lib.hid (C.again X4 B (aF16 (aF16 (bF16 F0k 3 2) 3) 3) 3 w11 T11.out.s (by decide) (by omega))
  rw [show aM16 ((aF16 (aF16 (bF16 F0k 3 2) 3) 3)) 3 = false by decide, show aB16 ((aF16 (aF16 (bF16 F0k 3 2) 3) 3)) 3 = false by decide] at G1
  go_wp2_with fail
  refine G1.out.mono ?_
  rintro e w12 ⟨rfl, hu⟩
  obtain ⟨X5, ht, -, -⟩ := T11.out.leftU hu
  have T12 := Lib.hid ht
  clear hu ht G1 T11
  obtain ⟨b0, b1, b2⟩ := bx16 T12.out.t.1.1.2
  obtain ⟨d0, d1, d2⟩ := bx16 T12.out.t.1.2
  obtain ⟨e0, e1, e2⟩ := bx16 T12.out.t.2
  have q1 := eq_val 9998 1 5 0 1 5 0 true (by simp)
  have q2 := eq_val 9998 2 0 0 2 0 0 true (by simp)
  have G1 := Lib.hid (C.size X5 B (aF16 (aF16 (aF16 (bF16 F0k 3 2) 3) 3) 3) w12 T12.out.s)
  rw [show n16 (aF16 (aF16 (aF16 (bF16 F0k 3 2) 3) 3) 3) = 2 by decide] at G1
  go_wp2_with fail
  refine G1.out.mono ?_
  rintro e w13 ⟨rfl, hb⟩
  have T13 := Lib.hid (T12.out.keep hb)
  clear hb G1 T12 b0 b1 b2 d0 d1 d2 e0 e1 e2
  go_wp2_with fail
  go_ret
  exact ⟨rfl, T13.out.be⟩
end Go.Proofs.Ytkifapnmojfjoaa
