/-
  Layer 7: what the reference's Kinds, Migrates, Zeros, Bytes answer.
-/
import Derived.Test.YtjdalgejejllgaaDoorHm
import Derived.Test.YtjdalgejejllgaaDoorHy
import Derived.Test.YtjdalgejejllgaaDoorHv
import Derived.Test.YtjdalgejejllgaaDoorLb
namespace Go.Proofs.YtjdalgejejllgaaDoor
open Go.RowKit
set_option maxRecDepth 100000
set_option linter.unusedSimpArgs false
set_option linter.unusedVariables false

theorem r7kindsof_v (x : Mc) (m : Mh) (w : World) (hx : Hd w x m) (b1 : m.a.length ≤ 1000) (b2 : m.l.length ≤ 1000) : Calls Tryd.prog 24 #[mv x m] w fun e w' => ∃ A c, e = .returned (.slice A (m.a.length + m.l.length) c) ∧
    w'.ownsRow w.heap.size 5 1 (.slice A (m.a.length + m.l.length) c) (m.a.length + m.l.length) (cel (m.a ++ m.l)) ∧ Below w.heap.size w w' := by
  obtain ⟨i0, hi, hz0, hz1, hz2⟩ := info_parts Tryd.info5
  have S0 := Lib.hid (((Sx.start w).add (fH x m) hx).mkM x m)
  clear hx
  obtain ⟨z0, z1, z2, z3, z4, z5, z6, z7, z8⟩ := S0.out.2.1
  have hs := S0.out.1.size
  go_enter Tryd.func24, Tryd.ntmps24
  go_upto_region 2 with (fail)
  have S0' : Hid (Sx w (w.alloc (.cells #[.slice x.A m.a.length x.c, .slice x.B m.l.length x.d, .int .u8 m.r, .bool m.q, .int .i64 m.f, .int .i64 m.s, .int .i64 m.h, .slice x.D x.k x.e] 25)) [fM w.heap.size x m, fH x m]) := S0
  clear z0 z1 z2 z3 z4 z5 z6 z7 z8 hs S0
  generalize w.alloc (.cells #[.slice x.A m.a.length x.c, .slice x.B m.l.length x.d, .int .u8 m.r, .bool m.q, .int .i64 m.f, .int .i64 m.s, .int .i64 m.h, .slice x.D x.k x.e] 25) = w0 at S0' ⊢
  obtain ⟨z0, z1, z2, z3, z4, z5, z6, z7, z8⟩ := S0'.out.2.1
  go_wp2_with (at_builtin; refine wpList_append_rd _ rfl (.tmp 4) (.tmp 6) 22 rfl w0.heap.size 5 i0 Tryd.underlying22 hi hz0 hz1 hz2 _ 0 [] rfl (World.ownsRow_nil _ _ _ _) x.A m.a.length x.c m.a rfl S0'.out.2.2.1.1 rfl (by omega) (Nat.le_refl _) ?_)
  intro A1 c1 w1 ho1 hg1 hb1 _
  have HO1 : Hid (w1.ownsRow w0.heap.size 5 1 (.slice A1 m.a.length c1) m.a.length (cel m.a)) := Lib.hid (by simpa using ho1)
  have HB1 := Lib.hid hb1
  clear ho1 hg1 hb1 z0 z1 z2 z3 z4 z5 z6 z7 z8
  obtain ⟨z0, z1, z2, z3, z4, z5, z6, z7, z8⟩ := (S0'.out.call HB1.out).2.1
  go_upto_region 3 with (fail)
  go_wp2_with (at_builtin; refine wpList_append_rd _ rfl (.tmp 8) (.tmp 10) 22 rfl w0.heap.size 5 i0 Tryd.underlying22 hi hz0 hz1 hz2 _ m.a.length m.a rfl HO1.out x.B m.l.length x.d m.l rfl (S0'.out.call HB1.out).2.2.1.2.1 rfl (by omega) HB1.out.size ?_)
  intro A2 c2 w2 ho1 hg1 hb1 _
  have HO2 := Lib.hid (own_base ho1 S0'.out.1.size)
  have HB2 := Lib.hid (below_on S0'.out.1 (HB1.out.trans hb1))
  clear ho1 hg1 hb1 HO1 HB1 z0 z1 z2 z3 z4 z5 z6 z7 z8 S0'
  go_wp2_with fail
  go_ret
  exact ⟨A2, c2, rfl, HO2.out, HB2.out⟩
set_option maxHeartbeats 1000000 in
theorem r7mig_v (x : Mc) (m : Mh) (v : Bool) (w : World) (hx : Hd w x m) (hv : mG m = v) : Calls Tryd.prog 14 #[mv x m] w fun e w' => e = .returned (.bool v) ∧ Below w.heap.size w w' := by
  obtain ⟨XA, xc, XB, xd, XD, xk, xe⟩ := x
  have hla := hx.la
  have HV := Lib.hid hv
  have S0 := Lib.hid (((Sx.start w).add (fH ⟨XA, xc, XB, xd, XD, xk, xe⟩ m) hx).mkM ⟨XA, xc, XB, xd, XD, xk, xe⟩ m)
  clear hx hv
  go_enter Tryd.func14, Tryd.ntmps14
  go_upto_region 1 with (fail)
  have S1 : Hid (Sx w (w.alloc (.cells #[.slice XA m.a.length xc, .slice XB m.l.length xd, .int .u8 m.r, .bool m.q, .int .i64 m.f, .int .i64 m.s, .int .i64 m.h, .slice XD xk xe] 25)) [fM w.heap.size ⟨XA, xc, XB, xd, XD, xk, xe⟩ m, fH ⟨XA, xc, XB, xd, XD, xk, xe⟩ m]) := S0
  clear S0
  generalize w.alloc (.cells #[.slice XA m.a.length xc, .slice XB m.l.length xd, .int .u8 m.r, .bool m.q, .int .i64 m.f, .int .i64 m.s, .int .i64 m.h, .slice XD xk xe] 25) = w0 at S1 ⊢
  obtain ⟨z0, z1, z2, z3, z4, z5, z6, z7, z8⟩ := S1.out.2.1
  dsimp only at z1 z2 z8
  go_wp2_with fail
  go_loopw [3] (fun i wr => ∃ j : Nat, j ≤ m.a.length ∧ i = .int .i64 j ∧ Hid (3 ∉ m.a.take j) ∧ wr = w0) (fun i _ => m.a.length - (intOf i).toNat)
  case atStart => exact ⟨0, by omega, rfl, by simp [Hid], rfl⟩
  case round =>
    obtain ⟨j, hj, rfl, HT, hwr⟩ := hrel
    subst wr
    by_cases h1 : j < m.a.length
    · have hR : Rd w0 XA xc m.a := S1.out.2.2.1.1
      obtain ⟨ad, rfl, hc⟩ := hR.at_ h1
      rw [List.getElem?_eq_getElem h1] at hc
      simp only [Option.getD_some] at hc
      clear hR
      by_cases hx : m.a[j] = 3
      · have HN : Hid (v = false) := by
          rw [Hid, ← HV.out, mG, show m.a.contains 3 = true by rw [List.contains_iff_mem, ← hx]; exact List.getElem_mem h1]
          simp
        have E : (m.a[j] == 3) = true := by simpa using hx
        clear HT hx
        generalize m.a[j] = k at *
        go_wp2_with fail
        go_ret
        exact ⟨by rw [HN.out]; rfl, S1.out.1⟩
      · have HN : Hid (3 ∉ m.a.take (j + 1)) := by
          rw [Hid, List.take_add_one, List.getElem?_eq_getElem h1]
          simp only [Option.toList_some, List.mem_append, List.mem_singleton, not_or]
          exact ⟨HT.out, fun e => hx e.symm⟩
        have E : (m.a[j] == 3) = false := by simpa using hx
        clear HT hx
        generalize m.a[j] = k at *
        go_wp2_with fail
        go_roundw
        case rel => exact ⟨j + 1, by omega, by go_num, HN, trivial⟩
        case measure => simp [intOf]; omega
    · obtain rfl : j = m.a.length := by omega
      have HN : Hid (mM m = v) := by
        have := HT.out
        rw [List.take_length] at this
        rw [Hid, ← HV.out, mG, show m.a.contains 3 = false by simpa using this]
        simp
      clear HT
      go_wp2_with fail
      refine (r7may_v ⟨XA, xc, XB, xd, XD, xk, xe⟩ m v _ S1.out.2.2.1 HN.out).mono ?_
      rintro e w1 ⟨rfl, hb1⟩
      have S2 := Lib.hid (S1.out.call hb1)
      clear hb1 S1 z0 z1 z2 z3 z4 z5 z6 z7 z8
      go_wp2_with fail
      go_ret
      exact ⟨rfl, S2.out.1⟩
theorem r7zeros_f (x : Mc) (m : Mh) (w : World) (hx : Hd w x m) (hv : mM m = false) : Calls Tryd.prog 22 #[mv x m] w fun e w' => e = .returned (.tuple #[.slice none 0 0, .bool false]) ∧ Below w.heap.size w w' := by
  have S0 := Lib.hid (((Sx.start w).add (fH x m) hx).mkM x m)
  clear hx
  obtain ⟨z0, z1, z2, z3, z4, z5, z6, z7, z8⟩ := S0.out.2.1
  have P1 := Lib.hid (r7may_v x m false _ S0.out.2.2.1 hv)
  clear hv
  go_enter Tryd.func22, Tryd.ntmps22
  go_wp2_with fail
  refine P1.out.mono ?_
  rintro e w1 ⟨rfl, hb1⟩
  have S1 := Lib.hid (S0.out.call hb1)
  clear hb1 P1 S0 z0 z1 z2 z3 z4 z5 z6 z7 z8
  go_wp2_with fail
  go_ret2
  exact ⟨rfl, S1.out.1⟩
theorem ok0_of {l : List Int} (h : Byt l) : ∀ x ∈ l.map (fun k => ((k, 0, 0) : Vlu)), VlOk x := by
  intro x hx
  obtain ⟨k, hk, rfl⟩ := List.mem_map.1 hx
  exact ⟨h k hk, by simp, by simp⟩
set_option maxHeartbeats 4000000 in
theorem r7zeros_t (x : Mc) (m : Mh) (M : Nat) (hM : m.l.length = M) (w : World) (hx : Hd w x m) (hv : mM m = true) : Calls Tryd.prog 22 #[mv x m] w fun e w' => ∃ A c, e = .returned (.tuple #[.slice A M c, .bool true]) ∧
    w'.ownsRow w.heap.size 42 3 (.slice A M c) M (cev (m.l.map fun k => (k, 0, 0))) ∧ Below w.heap.size w w' := by
  obtain ⟨XA, xc, XB, xd, XD, xk, xe⟩ := x
  have hmm := mM_iff.1 hv
  have hM16 : M ≤ 16 := by omega
  have HM := Lib.hid hM
  have HBL := Lib.hid hx.2.1.byt
  have S0 := Lib.hid (((Sx.start w).add (fH ⟨XA, xc, XB, xd, XD, xk, xe⟩ m) hx).mkM ⟨XA, xc, XB, xd, XD, xk, xe⟩ m)
  obtain ⟨X0, hX0⟩ : ∃ X0 : List Vlu, m.l.map (fun k => (k, 0, 0)) = X0 := ⟨_, rfl⟩
  have HX0 : Hid (m.l.map (fun k => ((k, 0, 0) : Vlu)) = X0 ∧ X0.length = M) := ⟨hX0, by rw [← hX0, List.length_map, hM]⟩
  rw [hX0]
  obtain ⟨z0, z1, z2, z3, z4, z5, z6, z7, z8⟩ := S0.out.2.1
  dsimp only at z1 z2 z8
  have P1 := Lib.hid (r7may_v ⟨XA, xc, XB, xd, XD, xk, xe⟩ m true _ S0.out.2.2.1 hv)
  clear hx hv hmm hM hX0
  go_enter Tryd.func22, Tryd.ntmps22
  go_wp2_with fail
  refine P1.out.mono ?_
  rintro e w4 ⟨rfl, hb1⟩
  have S4 := Lib.hid (S0.out.call hb1)
  have hs4 := S4.out.1.size
  clear hb1 P1 S0 z0 z1 z2 z3 z4 z5 z6 z7 z8
  go_wp2_with fail
  generalize hB4 : w4.heap.size = B4 at *
  go_loopw [4, 5] (fun zs i wr => ∃ (j : Nat) (A' : Option Addr) (c' : Nat), j ≤ M ∧ i = .int .i64 j ∧ zs = .slice A' j c' ∧ Hid (wr.ownsRow B4 42 3 (.slice A' j c') j (cev (X0.take j))) ∧ Hid (Below B4 w4 wr)) (fun _ i _ => M - (intOf i).toNat)
  case atStart => exact ⟨0, none, 0, by omega, rfl, rfl, Lib.hid (World.ownsRow_nil _ _ _ _), Lib.hid (Below.refl _ _)⟩
  case round =>
    obtain ⟨j, A6, c6, hj, rfl, rfl, HO, HB⟩ := hrel
    have hsz := HB.out.size
    have S5 : Hid (Sx w wr [fM w.heap.size ⟨XA, xc, XB, xd, XD, xk, xe⟩ m, fH ⟨XA, xc, XB, xd, XD, xk, xe⟩ m]) := Lib.hid (S4.out.call (by rw [hB4]; exact HB.out))
    obtain ⟨x0, x1, x2, x3, x4, x5, x6, x7, x8⟩ := S5.out.2.1
    dsimp only at x1 x2 x8
    rw [HM.out] at x2
    by_cases h1 : j < M
    · have h1a : j < m.l.length := by rw [HM.out]; exact h1
      have hR : Rd wr XB xd m.l := S5.out.2.2.1.2.1
      obtain ⟨ad, rfl, hc⟩ := hR.at_ h1a
      rw [List.getElem?_eq_getElem h1a] at hc
      simp only [Option.getD_some] at hc
      have HT : Hid (X0.take (j + 1) = X0.take j ++ [(m.l[j], 0, 0)]) := by
        rw [Hid, ← HX0.out.1, List.take_add_one, List.getElem?_map, List.getElem?_eq_getElem h1a]
        rfl
      have hkb := HBL.out _ (List.getElem_mem h1a)
      clear hR
      generalize m.l[j] = k at *
      have HO1 := Lib.hid (own_below (B := B4) HO.out (new1 (a := .cells #[.int .u8 k, .int .i64 0, .int .i64 0] 42)) (Nat.le_refl _))
      have HR1 := Lib.hid (rv_new wr (k, 0, 0) ⟨hkb, by simp, by simp⟩)
      have HB1 : Hid (Below B4 w4 (wr.alloc (.cells #[.int .u8 k, .int .i64 0, .int .i64 0] 42))) := HB.out.alloc (by omega) _
      clear HO HB
      go_wp2_with (at_builtin; refine wpList_append_rv _ rfl _ _ rfl B4 _ j (X0.take j) rfl HO1.out _ 1 1 [(k, 0, 0)] rfl HR1.out rfl (by omega) (by have := HB1.out.size; omega) ?_)
      intro A7 c7 w5 ho hb
      have HO2 := Lib.hid ho
      have HB2 := Lib.hid (HB1.out.trans hb)
      clear ho hb HO1 HR1 HB1 x0 x1 x2 x3 x4 x5 x6 x7 x8
      go_wp2_with fail
      go_roundw
      case rel => exact ⟨j + 1, A7, c7, by omega, by go_num, rfl, by rw [HT.out]; exact HO2, HB2⟩
      case measure => simp [intOf]; omega
    · have hjn : j = M := by omega
      subst j
      have HO1 := Lib.hid (own_base (by have := HO.out; rwa [List.take_of_length_le (by rw [HX0.out.2]; omega)] at this) hs4)
      have HB1 := Lib.hid S5.out.1
      clear HO HB S4 S5
      go_wp2_with fail
      go_ret2
      exact ⟨A6, c6, rfl, HO1.out, HB1.out⟩
theorem r7zeros_v (x : Mc) (m : Mh) (v : Bool) (w : World) (hx : Hd w x m) (hv : mM m = v) : Calls Tryd.prog 22 #[mv x m] w fun e w' => ∃ A c, e = .returned (.tuple #[.slice A (mZ m).length c, .bool v]) ∧
    w'.ownsRow w.heap.size 42 3 (.slice A (mZ m).length c) (mZ m).length (cev (mZ m)) ∧ Below w.heap.size w w' := by
  cases v with
  | false =>
    refine (r7zeros_f x m w hx hv).mono ?_
    rintro e w' ⟨rfl, hb⟩
    rw [mZ_f hv]
    exact ⟨none, 0, rfl, World.ownsRow_nil _ _ _ _, hb⟩
  | true =>
    refine (r7zeros_t x m _ rfl w hx hv).mono ?_
    rintro e w' ⟨A, c, rfl, ho, hb⟩
    rw [mZ_t hv]
    exact ⟨A, c, by simp, by simpa using ho, hb⟩
end Go.Proofs.YtjdalgejejllgaaDoor
