/-
  What octet.Get answers, for every argument: the number, the next offset and the error; nothing that was there has changed.
-/
import Derived.Test.YthmfjdafmnmgiaaDoorSettle
namespace Go.Proofs.YthmfjdafmnmgiaaDoor
open Go.RowKit

/-- Get's error, number and next. -/
def getE (l : List Int) (p W : Int) : Int := if W < 1 ∨ 8 < W then 2 else if cutE l p W = 0 then (if 9223372036854775807 < num (cutL l p W) then 11 else 0) else cutE l p W
def getV (l : List Int) (p W : Int) : Int := if getE l p W = 0 then num (cutL l p W) else 0
def getN (l : List Int) (p W : Int) : Int := if getE l p W = 0 then p + W else 0

/-- The world with Get's three results. -/
def three (w : World) (T : Nat) (v1 v2 v3 : Value) : World := ((w.alloc (.cells #[v1] T)).alloc (.cells #[v2] 3)).alloc (.cells #[v3] 27)
theorem three_1 (w : World) (T : Nat) (v1 v2 v3 : Value) : (three w T v1 v2 v3).cell? ⟨w.heap.size, 0, none⟩ = some v1 := by simp [three, go_sem]
theorem three_2 (w : World) (T : Nat) (v1 v2 v3 : Value) : (three w T v1 v2 v3).cell? ⟨w.heap.size + 1, 0, none⟩ = some v2 := by simp [three, go_sem]
theorem three_3 (w : World) (T : Nat) (v1 v2 v3 : Value) : (three w T v1 v2 v3).cell? ⟨w.heap.size + 1 + 1, 0, none⟩ = some v3 := by simp [three, go_sem]
theorem three_f1 (w : World) (T : Nat) (v1 v2 v3 : Value) : (three w T v1 v2 v3).frozen? ⟨w.heap.size, 0, none⟩ = false := by simp [three, go_sem]
theorem three_f2 (w : World) (T : Nat) (v1 v2 v3 : Value) : (three w T v1 v2 v3).frozen? ⟨w.heap.size + 1, 0, none⟩ = false := by simp [three, go_sem]
theorem three_set1 (w : World) (T : Nat) (v1 v2 v3 u : Value) : (three w T v1 v2 v3).setCell ⟨w.heap.size, 0, none⟩ u = three w T u v2 v3 := by simp [three, go_sem]
theorem three_set2 (w : World) (T : Nat) (v1 v2 v3 u : Value) : (three w T v1 v2 v3).setCell ⟨w.heap.size + 1, 0, none⟩ u = three w T v1 u v3 := by simp [three, go_sem]
theorem three_below (w : World) (T : Nat) (v1 v2 v3 : Value) : Below w.heap.size w (three w T v1 v2 v3) := by unfold three; go_grown

theorem get_door (tm : Array Value) (w : World) (v x e : Int) (R : Ending → World → Prop) (h6 : tm[6]?.getD undef = .pointer (some ⟨w.heap.size, 0, none⟩)) (h7 : tm[7]?.getD undef = .pointer (some ⟨w.heap.size + 1, 0, none⟩)) (h8 : tm[8]?.getD undef = .pointer (some ⟨w.heap.size + 1 + 1, 0, none⟩))
    (hR : R (.returned (.tuple #[.int .i64 (if e = 0 then v else 0), .int .i64 (if e = 0 then x else 0), .int .i64 e])) (three w 3 (.int .i64 (if e = 0 then v else 0)) (.int .i64 (if e = 0 then x else 0)) (.int .i64 e))) :
    bodyPostD Tryd.prog Tryd.f66 R Exit.ret { tmps := tm, defers := [{ target := Target.fn (Fn.func 76) #[], args := #[.pointer (some ⟨w.heap.size, 0, none⟩), .pointer (some ⟨w.heap.size + 1, 0, none⟩), .pointer (some ⟨w.heap.size + 1 + 1, 0, none⟩)] }] }
      (three w 3 (.int .i64 v) (.int .i64 x) (.int .i64 e)) := by
  have hres : ∀ v1 v2 v3 : Int, (results Tryd.f66 tm).run Tryd.prog (three w 3 (.int .i64 v1) (.int .i64 v2) (.int .i64 v3)) = .ok (.tuple #[.int .i64 v1, .int .i64 v2, .int .i64 v3]) (three w 3 (.int .i64 v1) (.int .i64 v2) (.int .i64 v3)) := by
    intro v1 v2 v3
    have c1 := three_1 w 3 (.int .i64 v1) (.int .i64 v2) (.int .i64 v3)
    have c2 := three_2 w 3 (.int .i64 v1) (.int .i64 v2) (.int .i64 v3)
    have c3 := three_3 w 3 (.int .i64 v1) (.int .i64 v2) (.int .i64 v3)
    simp [results, Tryd.results66, go_sem, h6, h7, h8, c1, c2, c3]
  refine leaves_cons (f := 76) (args := #[.pointer (some ⟨w.heap.size, 0, none⟩), .pointer (some ⟨w.heap.size + 1, 0, none⟩), .pointer (some ⟨w.heap.size + 1 + 1, 0, none⟩)]) (by simp) (by simp [go_sem]) ?_
  by_cases he : e = 0
  · subst he
    refine (settle_int_ok _ _ _ .returning _ (three_3 _ _ _ _ _)).mono ?_
    rintro e u' w'' ⟨rfl, rfl, rfl⟩
    exact ⟨_, hres _ _ _, hR⟩
  · rw [if_neg he, if_neg he] at hR
    refine (settle_int_err _ _ _ _ _ e .returning _ (three_1 _ _ _ _ _) (three_2 _ _ _ _ _) (three_3 _ _ _ _ _) (three_f1 _ _ _ _ _) (three_f2 _ _ _ _ _) (by simp) (by simpa using he)).mono ?_
    rintro e u' w'' ⟨rfl, rfl, rfl⟩
    rw [three_set1, three_set2]
    exact ⟨_, hres _ _ _, hR⟩

theorem cutL_le (l : List Int) (p W : Int) (k : Nat) (h : W ≤ k) : (cutL l p W).length ≤ k := by
  unfold cutL
  split
  · simp; omega
  · simp
theorem get_bad {l : List Int} {p W : Int} (h : W < 1 ∨ 8 < W) : getE l p W = 2 := by rw [getE, if_pos h]
theorem get_eq {l : List Int} {p W : Int} (h : 1 ≤ W ∧ W ≤ 8) : getE l p W = if cutE l p W = 0 then (if 9223372036854775807 < num (cutL l p W) then 11 else 0) else cutE l p W := by rw [getE, if_neg (by omega)]
theorem get_big {l : List Int} {p W : Int} (h : 1 ≤ W ∧ W ≤ 8) (hb : 9223372036854775807 < num (cutL l p W)) : getE l p W = 11 := by
  rw [get_eq h]
  by_cases h0 : cutE l p W = 0
  · rw [if_pos h0, if_pos hb]
  · rw [cutL, if_neg h0] at hb
    simp [num] at hb
theorem get_small {l : List Int} {p W : Int} (h : 1 ≤ W ∧ W ≤ 8) (hb : num (cutL l p W) ≤ 9223372036854775807) : getE l p W = cutE l p W := by
  rw [get_eq h, if_neg (Int.not_lt.2 hb)]
  split
  · rename_i h0; exact h0.symm
  · rfl

set_option maxHeartbeats 400000 in
theorem get_any (A : Option Addr) (c : Nat) (l : List Int) (p W : Int) (w : World) (hr : Rd w A c l) :
    Calls Tryd.prog 66 #[.slice A l.length c, .int .i64 p, .int .i64 W] w fun e w' => e = .returned (.tuple #[.int .i64 (getV l p W), .int .i64 (getN l p W), .int .i64 (getE l p W)]) ∧ Below w.heap.size w w' := by
  have hr2 : ∀ v1 v2 v3 : Value, Rd (((w.alloc (.cells #[v1] 3)).alloc (.cells #[v2] 3)).alloc (.cells #[v3] 27)) A c l := fun v1 v2 v3 => ((hr.alloc _).alloc _).alloc _
  have HR := Lib.hid hr2
  clear hr2
  by_cases hW : W < 1 ∨ 8 < W
  · go_enter_defers Tryd.func66, Tryd.ntmps66
    go_wp2_with (go_at_call 59; refine (measured_no _ _ hW).mono ?_; rintro e w' ⟨rfl, rfl⟩)
    refine get_door _ w 0 0 2 _ rfl rfl rfl ?_
    refine ⟨?_, three_below _ _ _ _ _⟩
    rw [getV, getN, get_bad hW]
    rfl
  · have hW' : 1 ≤ W ∧ W ≤ 8 := by omega
    clear hW
    have h8 := cutL_le l p W 8 hW'.2
    have h0 := num_nonneg (byt_cut hr.byt p W)
    by_cases hbig : 9223372036854775807 < num (cutL l p W)
    · have hE := get_big hW' hbig
      have HE := Lib.hid hE
      clear hE
      go_enter_defers Tryd.func66, Tryd.ntmps66
      go_wp2_with fail
      refine (measured_yes _ _ hW'.1 hW'.2).mono ?_
      rintro e w' ⟨rfl, rfl⟩
      go_wp2_with fail
      refine (cut_any A c l p W _ (HR.out _ _ _) (by omega)).mono ?_
      rintro e w' ⟨A', c', rfl, hr', rfl⟩
      have HR' := Lib.hid (hr' _ (HR.out (.int .i64 0) (.int .i64 (cutN l p W)) (.int .i64 (cutE l p W))))
      clear hr'
      go_wp2_with fail
      refine (join_u64 A' c' _ _ HR'.out h8).mono ?_
      rintro e w' ⟨rfl, rfl⟩
      go_wp2_with fail
      refine get_door _ w (wrap64 (num (cutL l p W))) (cutN l p W) 11 _ rfl rfl rfl ?_
      refine ⟨?_, three_below _ _ _ _ _⟩
      rw [getV, getN, HE.out]
      rfl
    · have hE := get_small hW' (Int.not_lt.1 hbig)
      have HE := Lib.hid hE
      clear hE
      go_enter_defers Tryd.func66, Tryd.ntmps66
      go_wp2_with fail
      refine (measured_yes _ _ hW'.1 hW'.2).mono ?_
      rintro e w' ⟨rfl, rfl⟩
      go_wp2_with fail
      refine (cut_any A c l p W _ (HR.out _ _ _) (by omega)).mono ?_
      rintro e w' ⟨A', c', rfl, hr', rfl⟩
      have HR' := Lib.hid (hr' _ (HR.out (.int .i64 0) (.int .i64 (cutN l p W)) (.int .i64 (cutE l p W))))
      clear hr'
      go_wp2_with fail
      refine (join_u64 A' c' _ _ HR'.out h8).mono ?_
      rintro e w' ⟨rfl, rfl⟩
      go_wp2_with fail
      refine get_door _ w (num (cutL l p W)) (cutN l p W) (cutE l p W) _ rfl rfl rfl ?_
      refine ⟨?_, three_below _ _ _ _ _⟩
      rw [getV, getN, HE.out, cutN]
      by_cases h0 : cutE l p W = 0 <;> simp [h0]
theorem get_m (A : Option Addr) (m c : Nat) (l : List Int) (p W : Int) (w : World) (hr : Rd w A c l) (hm : l.length = m) :
    Calls Tryd.prog 66 #[.slice A m c, .int .i64 p, .int .i64 W] w fun e w' => e = .returned (.tuple #[.int .i64 (getV l p W), .int .i64 (getN l p W), .int .i64 (getE l p W)]) ∧ Below w.heap.size w w' := by
  subst hm; exact get_any A c l p W w hr
theorem get_short {l : List Int} {p W : Int} (h : 1 ≤ W ∧ W ≤ 8) (h0 : 0 ≤ p) (h1 : p ≤ l.length) (h2 : l.length - p < W) : getE l p W = 10 := by
  have e := (cut_short h0 h1 h2).1
  rw [get_eq h, e]
  rfl
theorem get_ok {l : List Int} {p W : Int} (h : 1 ≤ W ∧ W ≤ 8) (h0 : 0 ≤ p) (h1 : p ≤ l.length) (h2 : W ≤ l.length - p) (hb : num ((l.drop p.toNat).take W.toNat) ≤ 9223372036854775807) :
    getE l p W = 0 ∧ getV l p W = num ((l.drop p.toNat).take W.toNat) ∧ getN l p W = p + W := by
  obtain ⟨e1, e2, _⟩ := cut_yes h0 h1 h2
  have e : getE l p W = 0 := by rw [get_eq h, if_pos e1, e2, if_neg (by omega)]
  exact ⟨e, by rw [getV, if_pos e, e2], by rw [getN, if_pos e]⟩
end Go.Proofs.YthmfjdafmnmgiaaDoor
