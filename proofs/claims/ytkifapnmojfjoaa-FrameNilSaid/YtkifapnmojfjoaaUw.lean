/-
  Layer 16, law FrameNil: a frame that nobody made.
-/
import Derived.Test.YtkifapnmojfjoaaUk
import Derived.Test.YtkifapnmojfjoaaUr
import Derived.Test.YtkifapnmojfjoaaUv
namespace Go.Proofs.Ytkifapnmojfjoaa
open Go.RowKit Go.Maps
set_option maxRecDepth 100000
set_option linter.unusedSimpArgs false
set_option linter.unusedVariables false

/-- Nil, or a frame that New did not return. -/
def No16 (w : World) (p : Option Addr) : Prop := p = none ∨ ∃ B, p = some ⟨B, 0, none⟩ ∧ w.cell? ⟨B, 0, none⟩ = some (.pointer none)
theorem No16.keep {w w' : World} {p : Option Addr} (h : No16 w p) (hb : Below w.heap.size w w') : No16 w' p :=
  h.imp id fun ⟨B, h1, h2⟩ => ⟨B, h1, (hb.cell (cell_lt h2)).trans h2⟩
theorem madeN_v (p : Option Addr) (w : World) (h : No16 w p) : Calls Try.prog 31 #[.pointer p] w fun e w' => e = .returned (.bool false) ∧ w' = w := by
  rcases h with rfl | ⟨B, rfl, h⟩
  · exact pmade_nil w
  · exact pmade_empty B w h
theorem goN_v (p : Option Addr) (n : Int) (w : World) (h : No16 w p) : Calls Try.prog 15 #[.pointer p, .int .i64 n] w fun e w' => e = .returned (.tuple #[]) ∧ w' = w := by
  have HM := Lib.hid (madeN_v p w h)
  clear h
  go_enter Try.func15, Try.ntmps15
  go_wp2_with fail
  refine HM.out.mono ?_
  rintro e w1 ⟨rfl, rfl⟩
  go_wp2_with fail
  go_end0
  exact ⟨rfl, rfl⟩
theorem beginN_v (p : Option Addr) (x n : Int) (w : World) (h : No16 w p) : Calls Try.prog 16 #[.pointer p, .int .i64 x, .int .i64 n] w fun e w' => e = .returned (.tuple #[]) ∧ w' = w := by
  have HM := Lib.hid (madeN_v p w h)
  clear h
  go_enter Try.func16, Try.ntmps16
  go_wp2_with fail
  refine HM.out.mono ?_
  rintro e w1 ⟨rfl, rfl⟩
  go_wp2_with fail
  go_end0
  exact ⟨rfl, rfl⟩
theorem localN_v (p : Option Addr) (i : Int) (w : World) (h : No16 w p) : Calls Try.prog 32 #[.pointer p, .int .i64 i] w fun e w' => e = .returned (.pointer none) ∧ w' = w := by
  have HM := Lib.hid (madeN_v p w h)
  clear h
  go_enter Try.func32, Try.ntmps32
  go_wp2_with fail
  refine HM.out.mono ?_
  rintro e w1 ⟨rfl, rfl⟩
  go_wp2_with fail
  go_ret
  exact ⟨rfl, rfl⟩
theorem getN_v (p : Option Addr) (i : Int) (w : World) (h : No16 w p) : Calls Try.prog 17 #[.pointer p, .int .i64 i] w fun e w' => e = .returned (.tuple #[va16 z16, .bool false]) ∧ Below w.heap.size w w' := by
  have HL := Lib.hid (localN_v p i _ (h.keep ((Below.refl w.heap.size w).alloc (Nat.le_refl _) (.cells #[.int .u8 0, .int .i64 0, .int .i64 0] 33))))
  clear h
  go_enter Try.func17, Try.ntmps17
  go_wp2_with fail
  refine HL.out.mono ?_
  rintro e w1 ⟨rfl, rfl⟩
  go_wp2_with fail
  refine bodyPost_ret (v := .tuple #[va16 z16, .bool false]) (by simp [results, Try.results17, go_sem, va16, z16]) rfl ?_
  exact ⟨rfl, (Below.refl _ _).alloc (Nat.le_refl _) _⟩
theorem topN_v (p : Option Addr) (w : World) (h : No16 w p) : Calls Try.prog 13 #[.pointer p] w fun e w' => e = .returned (.tuple #[va16 z16, .bool false]) ∧ Below w.heap.size w w' := by
  have HM := Lib.hid (madeN_v p _ (h.keep ((Below.refl w.heap.size w).alloc (Nat.le_refl _) (.cells #[.int .u8 0, .int .i64 0, .int .i64 0] 33))))
  clear h
  go_enter Try.func13, Try.ntmps13
  go_wp2_with fail
  refine HM.out.mono ?_
  rintro e w1 ⟨rfl, rfl⟩
  go_wp2_with fail
  refine bodyPost_ret (v := .tuple #[va16 z16, .bool false]) (by simp [results, Try.results13, go_sem, va16, z16]) rfl ?_
  exact ⟨rfl, (Below.refl _ _).alloc (Nat.le_refl _) _⟩
theorem popN_v (p : Option Addr) (k : Int) (w : World) (h : No16 w p) : Calls Try.prog 18 #[.pointer p, .int .u8 k] w fun e w' => e = .returned (.tuple #[va16 z16, .bool false]) ∧ Below w.heap.size w w' := by
  have HT := Lib.hid (topN_v p _ (h.keep ((Below.refl w.heap.size w).alloc (Nat.le_refl _) (.cells #[.int .u8 0, .int .i64 0, .int .i64 0] 33))))
  clear h
  go_enter Try.func18, Try.ntmps18
  go_wp2_with fail
  refine HT.out.mono ?_
  rintro e w1 ⟨rfl, hb⟩
  have HB1 : Hid (Below w.heap.size w w1) := Lib.hid (((Below.refl _ _).alloc (Nat.le_refl _) _).trans (hb.mono (by simp)))
  have HP : Hid (w1.heap[w.heap.size]? = some (.cells #[.int .u8 0, .int .i64 0, .int .i64 0] 33 (0, 0))) := Lib.hid ((hb.block _ (by simp)).trans (World.alloc_heap_new _ _))
  have hl1 : w.heap.size < w1.heap.size := (Array.getElem?_eq_some_iff.1 HP.out).1
  unfold va16 z16
  dsimp only
  clear hb HT
  obtain ⟨P0, hP0⟩ : ∃ P0, w.heap.size = P0 := ⟨_, rfl⟩
  have HP0 := Lib.hid hP0
  rw [hP0] at HP hl1 ⊢
  clear hP0
  have p0 : w1.cell? ⟨P0, 0, none⟩ = some (.int .u8 0) := by simp [World.cell?, HP.out]
  have p1 : w1.cell? ⟨P0, 1, none⟩ = some (.int .i64 0) := by simp [World.cell?, HP.out]
  have p2 : w1.cell? ⟨P0, 2, none⟩ = some (.int .i64 0) := by simp [World.cell?, HP.out]
  have r0 : w1.frozen? ⟨P0, 0, none⟩ = false := frozen_of_row w1 P0 0 _ _ HP.out
  have r1 : w1.frozen? ⟨P0, 1, none⟩ = false := frozen_of_row w1 P0 1 _ _ HP.out
  have r2 : w1.frozen? ⟨P0, 2, none⟩ = false := frozen_of_row w1 P0 2 _ _ HP.out
  have HFIN : Hid (∀ (u0 u1 u2 : Value) (o : Obj), Below w.heap.size w ((((w1.setCell ⟨P0, 0, none⟩ u0).setCell ⟨P0, 1, none⟩ u1).setCell ⟨P0, 2, none⟩ u2).alloc o)) := Lib.hid (fun u0 u1 u2 o =>
    (((HB1.out.setCell (p := ⟨P0, 0, none⟩) (Nat.le_of_eq HP0.out) u0).setCell (p := ⟨P0, 1, none⟩) (Nat.le_of_eq HP0.out) u1).setCell (p := ⟨P0, 2, none⟩) (Nat.le_of_eq HP0.out) u2).alloc (by have := HB1.out.size; simp; omega) o)
  go_wp2_with fail
  refine pret16 _ _ P0 z16 false _ rfl rfl ((Below.heap_alloc _ _ _ (by simpa using hl1)).trans (box16 HP.out)) ?_
  exact ⟨rfl, HFIN.out _ _ _ _⟩
theorem againN_v (p : Option Addr) (x : Int) (w : World) (h : No16 w p) : Calls Try.prog 19 #[.pointer p, .int .i64 x] w fun e w' => e = .returned (.tuple #[.bool false, .bool false]) ∧ w' = w := by
  have HM := Lib.hid (madeN_v p w h)
  clear h
  go_enter Try.func19, Try.ntmps19
  go_wp2_with fail
  refine HM.out.mono ?_
  rintro e w1 ⟨rfl, rfl⟩
  go_wp2_with fail
  go_ret2
  exact ⟨rfl, rfl⟩
theorem setN_v (p : Option Addr) (i v0 v1 v2 : Int) (w : World) (h : No16 w p) : Calls Try.prog 20 #[.pointer p, .int .i64 i, .agg #[.int .u8 v0, .int .i64 v1, .int .i64 v2]] w fun e w' => e = .returned (.bool false) ∧ Below w.heap.size w w' := by
  have HL := Lib.hid (localN_v p i _ (h.keep ((Below.refl w.heap.size w).alloc (Nat.le_refl _) (.cells #[.int .u8 v0, .int .i64 v1, .int .i64 v2] 33))))
  clear h
  go_enter Try.func20, Try.ntmps20
  go_wp2_with fail
  refine HL.out.mono ?_
  rintro e w1 ⟨rfl, rfl⟩
  go_upto_region 2 with (fail)
  go_quiet (fail)
  go_wp2_with fail
  go_ret
  exact ⟨rfl, below_draws ((Below.refl _ _).alloc (Nat.le_refl _) _) _⟩
theorem pushN_v (p : Option Addr) (v0 v1 v2 : Int) (w : World) (h : No16 w p) : Calls Try.prog 21 #[.pointer p, .agg #[.int .u8 v0, .int .i64 v1, .int .i64 v2]] w fun e w' => e = .returned (.bool false) ∧ Below w.heap.size w w' := by
  have HM := Lib.hid (madeN_v p _ (h.keep ((Below.refl w.heap.size w).alloc (Nat.le_refl _) (.cells #[.int .u8 v0, .int .i64 v1, .int .i64 v2] 33))))
  clear h
  go_enter Try.func21, Try.ntmps21
  go_wp2_with fail
  refine HM.out.mono ?_
  rintro e w1 ⟨rfl, rfl⟩
  go_wp2_with fail
  go_ret
  exact ⟨rfl, (Below.refl _ _).alloc (Nat.le_refl _) _⟩
theorem sizeN_v (p : Option Addr) (w : World) (h : No16 w p) : Calls Try.prog 10 #[.pointer p] w fun e w' => e = .returned (.int .i64 0) ∧ w' = w := by
  have HM := Lib.hid (madeN_v p w h)
  clear h
  go_enter Try.func10, Try.ntmps10
  go_wp2_with fail
  refine HM.out.mono ?_
  rintro e w1 ⟨rfl, rfl⟩
  go_wp2_with fail
  go_ret
  exact ⟨rfl, rfl⟩
theorem placeN_v (p : Option Addr) (w : World) (h : No16 w p) : Calls Try.prog 12 #[.pointer p] w fun e w' => e = .returned (.int .i64 0) ∧ w' = w := by
  have HM := Lib.hid (madeN_v p w h)
  clear h
  go_enter Try.func12, Try.ntmps12
  go_wp2_with fail
  refine HM.out.mono ?_
  rintro e w1 ⟨rfl, rfl⟩
  go_wp2_with fail
  go_ret
  exact ⟨rfl, rfl⟩
/-- The cells of an empty frame. -/
def ec16 : Array Value := (.pointer none :: (cev (List.replicate 16 z16) ++ [.int .i64 0, .slice none 0 0, .int .i64 0, .map none])).toArray
abbrev Z16 : Obj := .cells #[.int .u8 0, .int .i64 0, .int .i64 0] 33
/-- What stands in memory while the law walks. -/
structure Nl16 (w : World) (Q P B : Nat) (k i n v0 v1 v2 : Int) : Prop where
  a : w.heap[Q]? = some (.cells (ac16 k i n v0 v1 v2) 36 (0, 0))
  l : w.heap[P]? = some (.cells #[.pointer none, .pointer (some ⟨B, 0, none⟩)] 25 (0, 0))
  f : w.cell? ⟨B, 0, none⟩ = some (.pointer none)
theorem Nl16.keep {w w' : World} {Q P B : Nat} {k i n v0 v1 v2 : Int} (h : Nl16 w Q P B k i n v0 v1 v2) (hb : Below w.heap.size w w') : Nl16 w' Q P B k i n v0 v1 v2 :=
  ⟨(hb.block _ (Array.getElem?_eq_some_iff.1 h.a).1).trans h.a, (hb.block _ (Array.getElem?_eq_some_iff.1 h.l).1).trans h.l, (hb.cell (cell_lt h.f)).trans h.f⟩
theorem Nl16.at_ {w : World} {Q P B : Nat} {k i n v0 v1 v2 : Int} (h : Nl16 w Q P B k i n v0 v1 v2) {j : Nat} (hj : j < 2) : ∃ p, w.cell? ⟨P, j, none⟩ = some (.pointer p) ∧ (p = none ∨ p = some ⟨B, 0, none⟩) := by
  match j, hj with
  | 0, _ => exact ⟨none, cell_of_box16 h.l rfl, .inl rfl⟩
  | 1, _ => exact ⟨some ⟨B, 0, none⟩, cell_of_box16 h.l rfl, .inr rfl⟩
theorem Nl16.no {w : World} {Q P B : Nat} {k i n v0 v1 v2 : Int} (h : Nl16 w Q P B k i n v0 v1 v2) {p : Option Addr} (hp : p = none ∨ p = some ⟨B, 0, none⟩) : No16 w p :=
  hp.imp id fun e => ⟨B, e, h.f⟩
theorem below_z16 (w w' : World) (h : Below w.heap.size w w') : Below w.heap.size w (w'.alloc Z16) := h.alloc h.size _
set_option maxHeartbeats 8000000 in
theorem nil16_walk (k i n v0 v1 v2 : Int) (w : World) : Calls Try.prog 4 #[.agg (ac16 k i n v0 v1 v2)] w fun e w' => e = .returned (.bool true) ∧ Below w.heap.size w w' := by
  have HA := fun wz => Lib.hid (awake16_any kf16 wz)
  go_enter Try.func4, Try.ntmps4
  unfold ac16
  go_wp2_with fail
  have HB : Hid (Below w.heap.size w (((w.alloc (.cells (ac16 k i n v0 v1 v2) 36)).alloc (.cells ec16 47)).alloc (.cells #[.pointer none, .pointer (some ⟨w.heap.size + 1, 0, none⟩)] 25))) :=
    Lib.hid ((((Below.refl _ w).alloc (Nat.le_refl _) _).alloc (by rw [size1]; omega) _).alloc (by rw [size1, size1]; omega) _)
  have HN : Hid (Nl16 (((w.alloc (.cells (ac16 k i n v0 v1 v2) 36)).alloc (.cells ec16 47)).alloc (.cells #[.pointer none, .pointer (some ⟨w.heap.size + 1, 0, none⟩)] 25)) w.heap.size (w.heap.size + 1 + 1) (w.heap.size + 1) k i n v0 v1 v2) := Lib.hid (by
    have e1 := World.alloc_heap_new w (.cells (ac16 k i n v0 v1 v2) 36)
    have e2 := World.alloc_heap_new (w.alloc (.cells (ac16 k i n v0 v1 v2) 36)) (.cells ec16 47)
    have e3 := World.alloc_heap_new ((w.alloc (.cells (ac16 k i n v0 v1 v2) 36)).alloc (.cells ec16 47)) (.cells #[.pointer none, .pointer (some ⟨w.heap.size + 1, 0, none⟩)] 25)
    rw [size1] at e2
    rw [size1, size1] at e3
    refine ⟨?_, e3, ?_⟩
    · exact (Below.heap_alloc _ _ _ (by rw [size1, size1]; omega)).trans ((Below.heap_alloc _ _ _ (by rw [size1]; omega)).trans e1)
    · exact cell_of_box16 ((Below.heap_alloc _ _ _ (by rw [size1, size1]; omega)).trans e2) rfl)
  change Code.wp _ _ _ _ (((w.alloc (.cells (ac16 k i n v0 v1 v2) 36)).alloc (.cells ec16 47)).alloc (.cells #[.pointer none, .pointer (some ⟨w.heap.size + 1, 0, none⟩)] 25))
  generalize (((w.alloc (.cells (ac16 k i n v0 v1 v2) 36)).alloc (.cells ec16 47)).alloc (.cells #[.pointer none, .pointer (some ⟨w.heap.size + 1, 0, none⟩)] 25)) = w1 at HB HN ⊢
  obtain ⟨Q, hQ⟩ : ∃ Q, w.heap.size = Q := ⟨_, rfl⟩
  rw [hQ] at HN ⊢
  have HQ := Lib.hid hQ
  clear hQ
  generalize Q + 1 + 1 = P at HN ⊢
  generalize Q + 1 = B at HN ⊢
  go_loopw [5] (fun iv wr => ∃ j : Nat, j ≤ 2 ∧ iv = .int .i64 j ∧ Hid (Below w1.heap.size w1 wr)) (fun iv _ => 2 - (intOf iv).toNat)
  case atStart => exact ⟨0, by omega, rfl, Lib.hid (Below.refl _ _)⟩
  case round =>
    obtain ⟨j, hj, rfl, HR⟩ := hrel
    rename World => wr
    by_cases h1 : j < 2
    · have N1 := Lib.hid (HN.out.keep HR.out)
      obtain ⟨p, hp, hpn⟩ := N1.out.at_ h1
      obtain ⟨a0, a1, a2, a3, a4, a5⟩ := abx16 N1.out.a
      have HP := Lib.hid hpn
      have G1 := Lib.hid (goN_v p n wr (N1.out.no HP.out))
      have G2 := Lib.hid (beginN_v p i n wr (N1.out.no HP.out))
      have G3 := Lib.hid (getN_v p i wr (N1.out.no HP.out))
      clear hpn
      go_wp2_with fail
      refine G1.out.mono ?_
      rintro e w2 ⟨rfl, rfl⟩
      go_wp2_with fail
      refine G2.out.mono ?_
      rintro e w2 ⟨rfl, rfl⟩
      go_wp2_with fail
      refine G3.out.mono ?_
      rintro e w3 ⟨rfl, hb⟩
      have B3 := Lib.hid (below_z16 _ _ hb)
      have N3 := Lib.hid (N1.out.keep B3.out)
      have G4 := Lib.hid (topN_v p (w3.alloc Z16) (N3.out.no HP.out))
      clear hb hp a0 a1 a2 a3 a4 a5 G1 G2 G3
      unfold va16 z16
      dsimp only
      go_wp2_with fail
      refine G4.out.mono ?_
      rintro e w4 ⟨rfl, hb⟩
      have B4 := Lib.hid (B3.out.trans ((below_z16 _ _ hb).mono B3.out.size))
      have N4 := Lib.hid (N3.out.keep (below_z16 _ _ hb))
      have G5 := Lib.hid (popN_v p v0 (w4.alloc Z16) (N4.out.no HP.out))
      obtain ⟨a0, a1, a2, a3, a4, a5⟩ := abx16 N4.out.a
      clear hb G4 N3 B3
      unfold va16 z16
      dsimp only
      go_wp2_with fail
      refine G5.out.mono ?_
      rintro e w5 ⟨rfl, hb⟩
      have B5 := Lib.hid (B4.out.trans ((below_z16 _ _ hb).mono B4.out.size))
      have N5 := Lib.hid (N4.out.keep (below_z16 _ _ hb))
      clear a0 a1 a2 a3 a4 a5
      obtain ⟨a0, a1, a2, a3, a4, a5⟩ := abx16 N5.out.a
      have G6 := Lib.hid (againN_v p i (w5.alloc Z16) (N5.out.no HP.out))
      have G7 := Lib.hid (setN_v p i v0 v1 v2 (w5.alloc Z16) (N5.out.no HP.out))
      clear hb G5 N4 B4
      unfold va16 z16
      dsimp only
      go_wp2_with fail
      refine G6.out.mono ?_
      rintro e w6 ⟨rfl, rfl⟩
      go_wp2_with fail
      refine G7.out.mono ?_
      rintro e w7 ⟨rfl, hb⟩
      have B7 := Lib.hid (B5.out.trans (hb.mono B5.out.size))
      have N7 := Lib.hid (N5.out.keep hb)
      clear a0 a1 a2 a3 a4 a5
      obtain ⟨a0, a1, a2, a3, a4, a5⟩ := abx16 N7.out.a
      have G8 := Lib.hid (pushN_v p v0 v1 v2 w7 (N7.out.no HP.out))
      clear hb G6 G7 N5 B5
      go_wp2_with fail
      refine G8.out.mono ?_
      rintro e w8 ⟨rfl, hb⟩
      have B8 := Lib.hid (B7.out.trans (hb.mono B7.out.size))
      have N8 := Lib.hid (N7.out.keep hb)
      have G9 := Lib.hid (sizeN_v p w8 (N8.out.no HP.out))
      have G10 := Lib.hid (placeN_v p w8 (N8.out.no HP.out))
      clear hb G8 N7 B7 a0 a1 a2 a3 a4 a5
      go_wp2_with fail
      refine G9.out.mono ?_
      rintro e w9 ⟨rfl, rfl⟩
      go_wp2_with fail
      refine G10.out.mono ?_
      rintro e w9 ⟨rfl, rfl⟩
      have HR3 := Lib.hid (HR.out.trans (B8.out.mono HR.out.size))
      go_wp2_with fail
      go_roundw
      case rel => exact ⟨j + 1, by omega, by go_num, HR3⟩
      case measure => simp [intOf]; omega
    · obtain rfl : j = 2 := by omega
      have HA := HA wr
      go_wp2_with fail
      refine HA.out.mono ?_
      rintro e w2 ⟨rfl, hb⟩
      have HE := Lib.hid ((HB.out.trans (HR.out.mono HB.out.size)).trans (hb.mono (Nat.le_trans HB.out.size HR.out.size)))
      clear hb
      go_wp2_with fail
      go_ret
      exact ⟨rfl, HE.out⟩
end Go.Proofs.Ytkifapnmojfjoaa
