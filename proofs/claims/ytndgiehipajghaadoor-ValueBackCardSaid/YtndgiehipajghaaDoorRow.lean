/-
  What octet.GetRow answers, for every argument: a copy of the bytes, the next offset and the error; nothing that was there has changed.
-/
import Derived.Test.YtndgiehipajghaaDoorGets
namespace Go.Proofs.YtndgiehipajghaaDoor
open Go.RowKit

/-- Three result variables in three blocks. -/
def Res (W : World) (g T : Nat) (v1 v2 v3 : Value) : Prop :=
  W.heap[g]? = some (.cells #[v1] T (0, 0)) ∧ W.heap[g + 1]? = some (.cells #[v2] 3 (0, 0)) ∧ W.heap[g + 1 + 1]? = some (.cells #[v3] 27 (0, 0))
section
variable {W W' : World} {g T : Nat} {v1 v2 v3 : Value}
theorem Res.c1 (h : Res W g T v1 v2 v3) : W.cell? ⟨g, 0, none⟩ = some v1 := cell_of_one h.1
theorem Res.c2 (h : Res W g T v1 v2 v3) : W.cell? ⟨g + 1, 0, none⟩ = some v2 := cell_of_one h.2.1
theorem Res.c3 (h : Res W g T v1 v2 v3) : W.cell? ⟨g + 1 + 1, 0, none⟩ = some v3 := cell_of_one h.2.2
theorem Res.f1 (h : Res W g T v1 v2 v3) : W.frozen? ⟨g, 0, none⟩ = false := free_of_one h.1
theorem Res.f2 (h : Res W g T v1 v2 v3) : W.frozen? ⟨g + 1, 0, none⟩ = false := free_of_one h.2.1
theorem Res.f3 (h : Res W g T v1 v2 v3) : W.frozen? ⟨g + 1 + 1, 0, none⟩ = false := free_of_one h.2.2
theorem Res.lt (h : Res W g T v1 v2 v3) : g + 1 + 1 < W.heap.size := (Array.getElem?_eq_some_iff.1 h.2.2).1
theorem Res.s1 (h : Res W g T v1 v2 v3) (u : Value) : Res (W.setCell ⟨g, 0, none⟩ u) g T u v2 v3 :=
  ⟨one_setCell h.1, (Below.heap_setCell _ _ _ _ (by simp)).trans h.2.1, (Below.heap_setCell _ _ _ _ (by simp; omega)).trans h.2.2⟩
theorem Res.s2 (h : Res W g T v1 v2 v3) (u : Value) : Res (W.setCell ⟨g + 1, 0, none⟩ u) g T v1 u v3 :=
  ⟨(Below.heap_setCell _ _ _ _ (by simp)).trans h.1, one_setCell h.2.1, (Below.heap_setCell _ _ _ _ (by simp)).trans h.2.2⟩
theorem Res.s3 (h : Res W g T v1 v2 v3) (u : Value) : Res (W.setCell ⟨g + 1 + 1, 0, none⟩ u) g T v1 v2 u :=
  ⟨(Below.heap_setCell _ _ _ _ (by simp; omega)).trans h.1, (Below.heap_setCell _ _ _ _ (by simp)).trans h.2.1, one_setCell h.2.2⟩
theorem Res.below (h : Res W g T v1 v2 v3) (hb : Below W.heap.size W W') : Res W' g T v1 v2 v3 :=
  ⟨(hb.block _ (Array.getElem?_eq_some_iff.1 h.1).1).trans h.1, (hb.block _ (Array.getElem?_eq_some_iff.1 h.2.1).1).trans h.2.1, (hb.block _ (Array.getElem?_eq_some_iff.1 h.2.2).1).trans h.2.2⟩
end
theorem res_new (w : World) (T : Nat) (v1 v2 v3 : Value) : Res (((w.alloc (.cells #[v1] T)).alloc (.cells #[v2] 3)).alloc (.cells #[v3] 27)) w.heap.size T v1 v2 v3 := by
  refine ⟨?_, ?_, ?_⟩
  · rw [Below.heap_alloc _ _ _ (by simp; omega), Below.heap_alloc _ _ _ (by simp)]; exact heap_alloc_new _ _
  · rw [Below.heap_alloc _ _ _ (by simp)]
    have := heap_alloc_new (w.alloc (.cells #[v1] T)) (.cells #[v2] 3)
    simpa using this
  · have := heap_alloc_new ((w.alloc (.cells #[v1] T)).alloc (.cells #[v2] 3)) (.cells #[v3] 27)
    simpa using this

/-- GetRow's error, bytes and next. -/
def grE (l : List Int) (p : Int) : Int := if getE l p 2 = 0 then cutE l (p + 2) (getV l p 2) else getE l p 2
def grL (l : List Int) (p : Int) : List Int := if grE l p = 0 then cutL l (p + 2) (getV l p 2) else []
def grN (l : List Int) (p : Int) : Int := if grE l p = 0 then p + 2 + getV l p 2 else 0

theorem getV_2 {l : List Int} (h : Byt l) (p : Int) : getV l p 2 ≤ 65535 := by
  rw [getV]
  split
  · have h1 := num_lt (byt_cut h p 2)
    have h2 := p256_le (cutL_le l p 2 2 (Int.le_refl _))
    rw [p256_2] at h2
    omega
  · decide

theorem sig_m (A : Option Addr) (m c : Nat) (l : List Int) (p : Int) (w : World) (hr : Rd w A c l) (hm : l.length = m) :
    Calls Tryd.prog 38 #[.slice A m c, .int .i64 p] w fun e w' => e = .returned (.tuple #[.int .i64 (sigV l p), .int .i64 (cutN l p 8), .int .i64 (cutE l p 8)]) ∧ Below w.heap.size w w' := by
  subst hm; exact sig_any A c l p w hr
end Go.Proofs.YtndgiehipajghaaDoor
