/-
  What octet.GetSigned answers, and bytes.Clone, for every argument; nothing that was there has changed.
-/
import Derived.Test.YtndgiehipajghaaDoorGet
namespace Go.Proofs.YtndgiehipajghaaDoor
open Go.RowKit

theorem sig_door (tm : Array Value) (w : World) (v x e : Int) (R : Ending → World → Prop) (h4 : tm[4]?.getD undef = .pointer (some ⟨w.heap.size, 0, none⟩)) (h5 : tm[5]?.getD undef = .pointer (some ⟨w.heap.size + 1, 0, none⟩)) (h6 : tm[6]?.getD undef = .pointer (some ⟨w.heap.size + 1 + 1, 0, none⟩))
    (hR : R (.returned (.tuple #[.int .i64 (if e = 0 then v else 0), .int .i64 (if e = 0 then x else 0), .int .i64 e])) (three w 2 (.int .i64 (if e = 0 then v else 0)) (.int .i64 (if e = 0 then x else 0)) (.int .i64 e))) :
    bodyPostD Tryd.prog Tryd.f38 R Exit.ret { tmps := tm, defers := [{ target := Target.fn (Fn.func 41) #[], args := #[.pointer (some ⟨w.heap.size, 0, none⟩), .pointer (some ⟨w.heap.size + 1, 0, none⟩), .pointer (some ⟨w.heap.size + 1 + 1, 0, none⟩)] }] }
      (three w 2 (.int .i64 v) (.int .i64 x) (.int .i64 e)) := by
  have hres : ∀ v1 v2 v3 : Int, (results Tryd.f38 tm).run Tryd.prog (three w 2 (.int .i64 v1) (.int .i64 v2) (.int .i64 v3)) = .ok (.tuple #[.int .i64 v1, .int .i64 v2, .int .i64 v3]) (three w 2 (.int .i64 v1) (.int .i64 v2) (.int .i64 v3)) := by
    intro v1 v2 v3
    have c1 := three_1 w 2 (.int .i64 v1) (.int .i64 v2) (.int .i64 v3)
    have c2 := three_2 w 2 (.int .i64 v1) (.int .i64 v2) (.int .i64 v3)
    have c3 := three_3 w 2 (.int .i64 v1) (.int .i64 v2) (.int .i64 v3)
    simp [results, Tryd.results38, go_sem, h4, h5, h6, c1, c2, c3]
  refine leaves_cons (f := 41) (args := #[.pointer (some ⟨w.heap.size, 0, none⟩), .pointer (some ⟨w.heap.size + 1, 0, none⟩), .pointer (some ⟨w.heap.size + 1 + 1, 0, none⟩)]) (by simp) (by simp [go_sem]) ?_
  by_cases he : e = 0
  · subst he
    refine (settle_int64_ok _ _ _ .returning _ (three_3 _ _ _ _ _)).mono ?_
    rintro e u' w'' ⟨rfl, rfl, rfl⟩
    exact ⟨_, hres _ _ _, hR⟩
  · rw [if_neg he, if_neg he] at hR
    refine (settle_int64_err _ _ _ _ _ e .returning _ (three_1 _ _ _ _ _) (three_2 _ _ _ _ _) (three_3 _ _ _ _ _) (three_f1 _ _ _ _ _) (three_f2 _ _ _ _ _) (by simp) (by simpa using he)).mono ?_
    rintro e u' w'' ⟨rfl, rfl, rfl⟩
    rw [three_set1, three_set2]
    exact ⟨_, hres _ _ _, hR⟩

/-- GetSigned's number. -/
def sigV (l : List Int) (p : Int) : Int := wrap64 (num (cutL l p 8))

set_option maxHeartbeats 400000 in
theorem sig_any (A : Option Addr) (c : Nat) (l : List Int) (p : Int) (w : World) (hr : Rd w A c l) :
    Calls Tryd.prog 38 #[.slice A l.length c, .int .i64 p] w fun e w' => e = .returned (.tuple #[.int .i64 (sigV l p), .int .i64 (cutN l p 8), .int .i64 (cutE l p 8)]) ∧ Below w.heap.size w w' := by
  have hr2 : ∀ v1 v2 v3 : Value, Rd (((w.alloc (.cells #[v1] 2)).alloc (.cells #[v2] 3)).alloc (.cells #[v3] 27)) A c l := fun v1 v2 v3 => ((hr.alloc _).alloc _).alloc _
  have HR := Lib.hid hr2
  clear hr2
  go_enter_defers Tryd.func38, Tryd.ntmps38
  go_wp2_with fail
  refine (cut_any A c l p 8 _ (HR.out _ _ _) (by omega)).mono ?_
  rintro e w' ⟨A', c', rfl, hr', rfl⟩
  have HR' := Lib.hid (hr' _ (HR.out (.int .i64 0) (.int .i64 (cutN l p 8)) (.int .i64 (cutE l p 8))))
  clear hr'
  go_wp2_with fail
  refine (join_i64 A' c' _ _ HR'.out).mono ?_
  rintro e w' ⟨rfl, rfl⟩
  go_wp2_with fail
  refine sig_door _ w (sigV l p) (cutN l p 8) (cutE l p 8) _ rfl rfl rfl ?_
  refine ⟨?_, three_below _ _ _ _ _⟩
  by_cases h0 : cutE l p 8 = 0
  · rw [if_pos h0, if_pos h0]
  · rw [if_neg h0, if_neg h0, sigV, cutN, if_neg h0, cutL, if_neg h0]
    simp [num, wrap64]

end Go.Proofs.YtndgiehipajghaaDoor
