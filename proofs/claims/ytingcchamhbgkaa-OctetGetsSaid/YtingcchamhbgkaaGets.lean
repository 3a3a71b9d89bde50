/-
  What octet.GetSigned answers, and bytes.Clone, for every argument; nothing that was there has changed.
-/
import Derived.Test.YtingcchamhbgkaaGet
import Derived.WalkSpells
namespace Go.Proofs.Ytingcchamhbgkaa
open Go.RowKit

theorem sig_door (tm : Array Value) (w : World) (v x e : Int) (R : Ending → World → Prop) (h4 : tm[4]?.getD undef = .pointer (some ⟨w.heap.size, 0, none⟩)) (h5 : tm[5]?.getD undef = .pointer (some ⟨w.heap.size + 1, 0, none⟩)) (h6 : tm[6]?.getD undef = .pointer (some ⟨w.heap.size + 1 + 1, 0, none⟩))
    (hR : R (.returned (.tuple #[.int .i64 (if e = 0 then v else 0), .int .i64 (if e = 0 then x else 0), .int .i64 e])) (three w 2 (.int .i64 (if e = 0 then v else 0)) (.int .i64 (if e = 0 then x else 0)) (.int .i64 e))) :
    bodyPostD Try.prog Try.f18 R Exit.ret { tmps := tm, defers := [{ target := Target.fn (Fn.func 31) #[], args := #[.pointer (some ⟨w.heap.size, 0, none⟩), .pointer (some ⟨w.heap.size + 1, 0, none⟩), .pointer (some ⟨w.heap.size + 1 + 1, 0, none⟩)] }] }
      (three w 2 (.int .i64 v) (.int .i64 x) (.int .i64 e)) := by
  have hres : ∀ v1 v2 v3 : Int, (results Try.f18 tm).run Try.prog (three w 2 (.int .i64 v1) (.int .i64 v2) (.int .i64 v3)) = .ok (.tuple #[.int .i64 v1, .int .i64 v2, .int .i64 v3]) (three w 2 (.int .i64 v1) (.int .i64 v2) (.int .i64 v3)) := by
    intro v1 v2 v3
    have c1 := three_1 w 2 (.int .i64 v1) (.int .i64 v2) (.int .i64 v3)
    have c2 := three_2 w 2 (.int .i64 v1) (.int .i64 v2) (.int .i64 v3)
    have c3 := three_3 w 2 (.int .i64 v1) (.int .i64 v2) (.int .i64 v3)
    simp [results, Try.results18, go_sem, h4, h5, h6, c1, c2, c3]
  refine leaves_cons (f := 31) (args := #[.pointer (some ⟨w.heap.size, 0, none⟩), .pointer (some ⟨w.heap.size + 1, 0, none⟩), .pointer (some ⟨w.heap.size + 1 + 1, 0, none⟩)]) (by simp) (by simp [go_sem]) ?_
  by_cases he : e = 0
  · subst he
    refine (settle_int64_ok _ _ _ .returning _ (three_3 _ _ _ _ _)).mono ?_
    rintro e u' w'' ⟨rfl, rfl, rfl⟩
    exact ⟨_, hres _ _ _, hR⟩
  · rw [if_neg he, if_neg he] at hR
    refine (settle_int64_err _ _ _ _ _ e .returning _ (three_1 _ _ _ _ _) (three_2 _ _ _ _ _) (three_3 _ _ _ _ _) (three_f1 _ _ _ _ _) (three_f2 _ _ _ _ _) (by simp) (by simpa using he)).mono ?_
    rintro e u' w'' ⟨rfl, rfl, rfl⟩
    rw [three_set1, three_set2]
    exact ⟨_, hres _ _ _, hR⟩

/-- GetSigned's number. -/
def sigV (l : List Int) (p : Int) : Int := wrap64 (num (cutL l p 8))

set_option maxHeartbeats 400000 in
theorem sig_any (A : Option Addr) (c : Nat) (l : List Int) (p : Int) (w : World) (hr : Rd w A c l) :
    Calls Try.prog 18 #[.slice A l.length c, .int .i64 p] w fun e w' => e = .returned (.tuple #[.int .i64 (sigV l p), .int .i64 (cutN l p 8), .int .i64 (cutE l p 8)]) ∧ Below w.heap.size w w' := by
  have hr2 : ∀ v1 v2 v3 : Value, Rd (((w.alloc (.cells #[v1] 2)).alloc (.cells #[v2] 3)).alloc (.cells #[v3] 24)) A c l := fun v1 v2 v3 => ((hr.alloc _).alloc _).alloc _
  have HR := Lib.hid hr2
  clear hr2
  go_enter_defers Try.func18, Try.ntmps18
  go_wp2_with fail
  refine (cut_any A c l p 8 _ (HR.out _ _ _) (by omega)).mono ?_
  rintro e w' ⟨A', c', rfl, hr', rfl⟩
  have HR' := Lib.hid (hr' _ (HR.out (.int .i64 0) (.int .i64 (cutN l p 8)) (.int .i64 (cutE l p 8))))
  clear hr'
  go_wp2_with fail
  refine (join_i64 A' c' _ _ HR'.out).mono ?_
  rintro e w' ⟨rfl, rfl⟩
  go_wp2_with fail
  refine sig_door _ w (sigV l p) (cutN l p 8) (cutE l p 8) _ rfl rfl rfl ?_
  refine ⟨?_, three_below _ _ _ _ _⟩
  by_cases h0 : cutE l p 8 = 0
  · rw [if_pos h0, if_pos h0]
  · rw [if_neg h0, if_neg h0, sigV, cutN, if_neg h0, cutL, if_neg h0]
    simp [num, wrap64]

theorem clone_any (A : Option Addr) (c : Nat) (l : List Int) (w : World) (hr : Rd w A c l) (hl : l.length ≤ 140737488355328) :
    Calls Try.prog 34 #[.slice A l.length c] w fun e w' => ∃ A' c', e = .returned (.slice A' l.length c') ∧
      w'.ownsRow w.heap.size 5 1 (.slice A' l.length c') l.length (cel l) ∧ Below w.heap.size w w' := by
  obtain ⟨i0, hi, hz0, hz1, hz2⟩ := info_parts Try.info5
  rcases hr.2.2.2 with ⟨rfl, rfl⟩ | ⟨ad, rfl, hcell⟩
  · obtain rfl : l = [] := List.eq_nil_of_length_eq_zero (by have := hr.le; omega)
    have hq : ∀ W : World, (binOp .eql 22 (.slice none 0 0) (.slice none 0 0)).run Try.prog W = .ok (.bool true) W := fun W => by kernel_rfl
    go_enter Try.func34, Try.ntmps34
    go_wp2_with fail
    go_ret
    exact ⟨none, 0, rfl, World.ownsRow_nil _ _ _ _, Below.refl _ _⟩
  · have hq := fun W : World => Lib.run_eql_slice_nil (P := Try.prog) W 22 5 (some ad) l.length c 0 0 Try.underlying22
    go_enter Try.func34, Try.ntmps34
    have hown0 : (w.alloc (.cells #[] 5)).ownsRow w.heap.size 5 1 (.slice (some ⟨w.heap.size, 0, none⟩) 0 0) 0 (cel []) := World.ownsRow_lit w #[] 0 (Nat.le_refl _) (Nat.zero_le _) rfl
    go_wp2_with (at_builtin; refine wpList_append_rd _ rfl _ _ 22 rfl w.heap.size 5 i0 Try.underlying22 hi hz0 hz1 hz2 _ 0 [] rfl hown0 (some ad) l.length c l rfl (hr.alloc _) rfl (by omega) (by simp) ?_; intro A' c' w2 hown2 hg2 hb2 _)
    go_ret
    have e : 0 + l.length = l.length := Nat.zero_add _
    rw [e] at hown2
    exact ⟨A', c', rfl, by simpa using hown2, ((Below.refl _ _).alloc (Nat.le_refl _) _).trans hb2⟩
end Go.Proofs.Ytingcchamhbgkaa
