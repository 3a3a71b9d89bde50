/-
  Layer 7: what Kinds answers, the program's (slices.Grow, slices.Concat) and the reference's.
-/
import Derived.Test.YtmgppdjbmhjmbaaLk
import Derived.OwnWalk
import Derived.Laws.OwnMore
import Derived.Lib.AppendZeros
namespace Go.Proofs.Ytmgppdjbmhjmbaa
open Go.RowKit
set_option maxRecDepth 100000
set_option linter.unusedSimpArgs false
set_option linter.unusedVariables false

theorem grow_nil_v (n : Nat) (hn : n ≤ 1000000) (w : World) : Calls Try.prog 61 #[.slice none 0 0, .int .i64 n] w fun e w' => ∃ A c, e = .returned (.slice A 0 c) ∧ w'.ownsRow w.heap.size 5 1 (.slice A 0 c) 0 (cel []) ∧ Below w.heap.size w w' := by
  obtain ⟨i0, hi, hz0, hz1, hz2⟩ := info_parts Try.info5
  by_cases h0 : n = 0
  · subst h0
    go_enter Try.func61, Try.ntmps61
    go_wp2_with fail
    go_ret
    exact ⟨none, 0, rfl, World.ownsRow_nil _ _ _ _, Below.refl _ _⟩
  · have hr := Lib.run_append_nil_zeros (P := Try.prog) w 24 3 24 5 i0 _ .i64 .i64 Try.underlying24 Try.underlying3 hi hz0 n (by omega) (by omega) (by omega) (by rw [hz2]; omega)
    have HR := Lib.hid hr
    have hge := grownCap_ge w n 0 5
    have hle : grownCap w n 0 5 ≤ maxLen := grownCap_le_maxLen w n 0 5 (by unfold maxLen; omega)
    obtain ⟨cap, hcap⟩ : ∃ cap, grownCap w n 0 5 = cap := ⟨_, rfl⟩
    rw [hcap] at HR hge hle
    obtain ⟨cs, hcs⟩ : ∃ cs, Builtin.zeroCells (Value.cells (.int .u8 0)) n ++ Builtin.zeroCells (Value.cells (.int .u8 0)) (cap - n) = cs := ⟨_, rfl⟩
    rw [hcs] at HR
    have hsz : cs.size = cap * 1 := by
      rw [← hcs]
      simp only [Array.size_append, size_zeroCells]
      have : (Value.cells (.int .u8 0)).size = 1 := rfl
      rw [this]
      omega
    clear hr hcs hcap
    go_enter Try.func61, Try.ntmps61
    go_wp2_with (at_builtin; refine Lib.wpList_append_run _ rfl _ _ _ _ rfl _ _ rfl rfl _ _ HR.out ?_)
    go_wp2_with fail
    go_ret
    exact ⟨some ⟨w.heap.size, 0, none⟩, cap, rfl, ⟨rfl, .inr ⟨w.heap.size, cap, cs, rfl, Nat.le_refl _, heap_alloc_new w.drew _, Nat.zero_le _, hle, hsz, rfl⟩⟩, ⟨rfl, rfl, rfl, by simp, fun k hk => heap_alloc_old w.drew _ hk⟩⟩
def T2l (l k : List Int) : Nat → List Int
  | 0 => []
  | 1 => l
  | _ => l ++ k
set_option maxHeartbeats 1000000 in
theorem concat2_v (g : Nat) (A B : Option Addr) (c d n m : Nat) (l k : List Int) (w : World) (h0 : w.cell? ⟨g, 0, none⟩ = some (.slice A n c)) (h1 : w.cell? ⟨g, 1, none⟩ = some (.slice B m d)) (hr : Rd w A c l) (hs : Rd w B d k) (hn : l.length = n) (hm : k.length = m) (b1 : n ≤ 400000) (b2 : m ≤ 400000) :
    Calls Try.prog 38 #[.slice (some ⟨g, 0, none⟩) 2 2] w fun e w' => ∃ A c, e = .returned (.slice A (n + m) c) ∧ w'.ownsRow w.heap.size 5 1 (.slice A (n + m) c) (n + m) (cel (l ++ k)) ∧ Below w.heap.size w w' := by
  subst hn hm
  obtain ⟨i0, hi, hz0, hz1, hz2⟩ := info_parts Try.info5
  have hgl : g < w.heap.size := cell_lt h0
  have HR := Lib.hid hr
  have HS := Lib.hid hs
  have HC : Hid (∀ w', Below w.heap.size w w' → w'.cell? ⟨g, 0, none⟩ = some (.slice A l.length c) ∧ w'.cell? ⟨g, 1, none⟩ = some (.slice B k.length d)) := fun w' hb => ⟨(hb.cell hgl).trans h0, (hb.cell hgl).trans h1⟩
  clear hr hs
  go_enter Try.func38, Try.ntmps38
  go_wp2_with fail
  go_loopw [3, 11] (fun sz i wr => ∃ j : Nat, j ≤ 2 ∧ i = .int .i64 j ∧ sz = .int .i64 ((T2l l k j).length : Nat) ∧ wr = w) (fun _ i _ => 2 - (intOf i).toNat)
  case atStart => exact ⟨0, by omega, rfl, rfl, rfl⟩
  case round =>
    obtain ⟨j, hj, rfl, rfl, hwr⟩ := hrel
    subst wr
    match j, hj with
    | 0, _ =>
      rw [show (T2l l k 0).length = 0 from rfl]
      go_wp2_with fail
      go_roundw
      case rel => exact ⟨1, by omega, rfl, by simp [T2l], trivial⟩
      case measure => decide
    | 1, _ =>
      rw [show (T2l l k 1).length = l.length from rfl]
      go_wp2_with fail
      go_roundw
      case rel => exact ⟨2, by omega, rfl, by simp [T2l], trivial⟩
      case measure => decide
    | 2, _ =>
      rw [show (T2l l k 2).length = l.length + k.length by simp [T2l]]
      go_wp2_with fail
      refine (grow_nil_v (l.length + k.length) (by omega) _).mono ?_
      rintro e w1 ⟨A1, c1, rfl, ho1, hb1⟩
      have HO1 := Lib.hid ho1
      have HB1 := Lib.hid hb1
      clear ho1 hb1 h0 h1
      go_wp2_with fail
      go_loopw [6, 27] (fun nsl i w2 => ∃ (j : Nat) (A' : Option Addr) (c' : Nat), j ≤ 2 ∧ i = .int .i64 j ∧ nsl = .slice A' (T2l l k j).length c' ∧ Hid (w2.ownsRow w.heap.size 5 1 (.slice A' (T2l l k j).length c') (T2l l k j).length (cel (T2l l k j))) ∧ Hid (Below w.heap.size w w2)) (fun _ i _ => 2 - (intOf i).toNat)
      case atStart => exact ⟨0, A1, c1, by omega, rfl, rfl, HO1, HB1⟩
      case round =>
        obtain ⟨j, A2, c2, hj, rfl, rfl, HO2, HB2⟩ := hrel
        clear HO1 HB1
        have hsz := HB2.out.size
        match j, hj with
        | 0, _ =>
          obtain ⟨h0, h1⟩ := HC.out _ HB2.out
          go_wp2_with (at_builtin; (refine wpList_append_rd _ rfl _ _ 24 rfl w.heap.size 5 i0 Try.underlying24 hi hz0 hz1 hz2 _ _ (T2l l k 0) rfl HO2.out _ _ _ l rfl (HR.out.keep HB2.out) rfl (by simp [T2l]; omega) hsz ?_))
          intro A7 c7 w7 ho7 hg7 hb7 _
          have HO7 := Lib.hid ho7
          have HB7 := Lib.hid (HB2.out.trans hb7)
          clear ho7 hg7 hb7 HO2 HB2 h0 h1
          go_wp2_with fail
          go_roundw
          case rel => exact ⟨1, A7, c7, by omega, rfl, by simp [T2l], by simpa [T2l] using HO7, HB7⟩
          case measure => decide
        | 1, _ =>
          obtain ⟨h0, h1⟩ := HC.out _ HB2.out
          go_wp2_with (at_builtin; refine wpList_append_rd _ rfl _ _ 24 rfl w.heap.size 5 i0 Try.underlying24 hi hz0 hz1 hz2 _ _ (T2l l k 1) rfl HO2.out _ _ _ k rfl (HS.out.keep HB2.out) rfl (by simp [T2l]; omega) hsz ?_)
          intro A7 c7 w7 ho7 hg7 hb7 _
          have HO7 := Lib.hid ho7
          have HB7 := Lib.hid (HB2.out.trans hb7)
          clear ho7 hg7 hb7 HO2 HB2 h0 h1
          go_wp2_with fail
          go_roundw
          case rel => exact ⟨2, A7, c7, by omega, rfl, by simp [T2l], by simpa [T2l] using HO7, HB7⟩
          case measure => decide
        | 2, _ =>
          go_wp2_with fail
          go_ret
          exact ⟨A2, c2, by simp [T2l], by have := HO2.out; simpa [T2l] using this, HB2.out⟩
end Go.Proofs.Ytmgppdjbmhjmbaa
