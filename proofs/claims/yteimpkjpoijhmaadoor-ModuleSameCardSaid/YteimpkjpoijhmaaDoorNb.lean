/-
  Layer 8, package module: what its small functions and its writer answer.
-/
import Derived.Test.YteimpkjpoijhmaaDoorMl
import Derived.Test.YteimpkjpoijhmaaDoorMk
import Derived.Test.YteimpkjpoijhmaaDoorLj
import Derived.Test.YteimpkjpoijhmaaDoorLp
import Derived.Test.YteimpkjpoijhmaaDoorLh
namespace Go.Proofs.YteimpkjpoijhmaaDoor
open Go.RowKit
set_option maxRecDepth 100000
set_option linter.unusedSimpArgs false
set_option linter.unusedVariables false

theorem mayG_v (n : Nat) (v : Bool) (w : World) (hv : decide ((n : Int) ≤ 4) = v) : Calls Tryd.prog 31 #[.int .i64 n] w fun r w' => r = .returned (.bool v) ∧ w' = w := by
  go_enter Tryd.func31, Tryd.ntmps31
  go_wp2_with fail
  go_ret
  exact ⟨by rw [← hv]; rfl, rfl⟩
theorem mayS_v (n : Int) (v : Bool) (w : World) (hv : decide (n ≤ 16) = v) : Calls Tryd.prog 32 #[.int .i64 n] w fun r w' => r = .returned (.bool v) ∧ w' = w := by
  go_enter Tryd.func32, Tryd.ntmps32
  go_wp2_with fail
  go_ret
  exact ⟨by rw [← hv]; rfl, rfl⟩
theorem mayI_v (i : Int) (n : Nat) (v : Bool) (w : World) (hv : decide (i = -1 ∨ 0 ≤ i ∧ i < n) = v) : Calls Tryd.prog 33 #[.int .i64 i, .int .i64 n] w fun r w' => r = .returned (.bool v) ∧ w' = w := by
  by_cases h1 : i = -1
  · have hv2 : v = true := by rw [← hv, decide_eq_true (.inl h1)]
    subst hv2
    clear hv
    subst h1
    go_enter Tryd.func33, Tryd.ntmps33
    go_wp2_with fail
    go_ret
    exact ⟨rfl, rfl⟩
  · have e1 : (i == -1) = false := by simpa using h1
    by_cases h2 : 0 ≤ i
    · have HV : Hid (decide (i < (n : Int)) = v) := by
        rw [Hid, ← hv]
        exact decide_eq_decide.2 (by omega)
      clear hv
      go_enter Tryd.func33, Tryd.ntmps33
      go_wp2_with fail
      go_ret
      exact ⟨by rw [← HV.out]; rfl, rfl⟩
    · have hv2 : v = false := by rw [← hv, decide_eq_false (by omega)]
      subst hv2
      clear hv
      go_enter Tryd.func33, Tryd.ntmps33
      go_wp2_with fail
      go_ret
      exact ⟨rfl, rfl⟩
theorem last_v (i : Int) (w : World) (h : -1 ≤ i) : Calls Tryd.prog 36 #[.int .i64 i] w fun r w' => r = .returned (.int .i64 (if i < 0 then 255 else i)) ∧ w' = w := by
  by_cases h1 : i = -1
  · subst h1
    go_enter Tryd.func36, Tryd.ntmps36
    go_wp2_with fail
    go_ret
    exact ⟨rfl, rfl⟩
  · have e1 : (i == -1) = false := by simpa using h1
    rw [if_neg (by omega)]
    go_enter Tryd.func36, Tryd.ntmps36
    go_wp2_with fail
    go_ret
    exact ⟨rfl, rfl⟩
theorem migOf_v (n : Int) (w : World) : Calls Tryd.prog 83 #[.int .i64 n] w fun r w' => r = .returned (.int .i64 (if n = 255 then -1 else n)) ∧ w' = w := by
  by_cases h1 : n = 255
  · subst h1
    go_enter Tryd.func83, Tryd.ntmps83
    go_wp2_with fail
    go_ret
    exact ⟨rfl, rfl⟩
  · have e1 : (n == 255) = false := by simpa using h1
    rw [if_neg h1]
    go_enter Tryd.func83, Tryd.ntmps83
    go_wp2_with fail
    go_ret
    exact ⟨rfl, rfl⟩
/-- The writer at block T. -/
def Wr (w : World) (T : Nat) (A : Option Addr) (c n : Nat) (X : List Int) (e : Int) : Prop :=
  T < w.heap.size ∧ w.cell? ⟨T, 0, none⟩ = some (.slice A n c) ∧ w.cell? ⟨T, 1, none⟩ = some (.int .i64 e) ∧ w.frozen? ⟨T, 0, none⟩ = false ∧ w.frozen? ⟨T, 1, none⟩ = false ∧ w.ownsRow (T + 1) 5 1 (.slice A n c) n (cel X)
theorem Wr.keep {w w' : World} {T : Nat} {A : Option Addr} {c n : Nat} {X : List Int} {e : Int} (h : Wr w T A c n X e) (hb : Below w.heap.size w w') : Wr w' T A c n X e := by
  obtain ⟨h1, h2, h3, h4, h5, h6⟩ := h
  obtain ⟨hc, hf⟩ := bcell hb
  exact ⟨Nat.lt_of_lt_of_le h1 hb.size, (hc _ _ h1).trans h2, (hc _ _ h1).trans h3, (hf _ _ h1).trans h4, (hf _ _ h1).trans h5, own_below h6 hb (Nat.le_refl _)⟩
theorem Wr.new (w : World) (t : Nat) : Wr (w.alloc (.cells #[.slice none 0 0, .int .i64 0] t)) w.heap.size none 0 0 [] 0 := by
  refine ⟨by simp, ?_, ?_, ?_, ?_, World.ownsRow_nil _ _ _ _⟩ <;> simp [go_sem]
def adX (X : List Int) (e : Int) (l : List Int) : List Int := if e = 0 then X ++ l else X
def adE (e e1 : Int) : Int := if e = 0 then e1 else e
def adN (n : Nat) (e : Int) (m : Nat) : Nat := if e = 0 then n + m else n
set_option maxHeartbeats 2000000 in
theorem add_v (T : Nat) (A A1 : Option Addr) (c n n1 c1 : Nat) (X l : List Int) (e e1 : Int) (w : World) (h : Wr w T A c n X e) (hr : Rd w A1 c1 l) (hn : l.length = n1) (hs : n + n1 ≤ 1000000) :
    Calls Tryd.prog 34 #[.pointer (some ⟨T, 0, none⟩), .slice A1 n1 c1, .int .i64 e1] w fun r w' => r = .returned (.tuple #[]) ∧ (∃ A2 c2, Wr w' T A2 c2 (adN n e n1) (adX X e l) (adE e e1)) ∧ Below T w w' ∧ (∀ k o, w.heap[k]? = some o → noRow o → k ≠ T → w'.heap[k]? = some o) := by
  obtain ⟨i0, hi, hz0, hz1, hz2⟩ := info_parts Tryd.info5
  by_cases he : e = 0
  · subst he
    rw [adX, if_pos rfl, adE, if_pos rfl, adN, if_pos rfl]
    obtain ⟨t0, t1, t2, t3, t4, t5⟩ := h
    have HO := Lib.hid t5
    have HR := Lib.hid hr
    have HN := Lib.hid hn
    have HC := Lib.hid (And.intro t1 (And.intro t2 (And.intro t3 t4)))
    clear t5 hr hn
    go_enter Tryd.func34, Tryd.ntmps34
    go_wp2_with (at_builtin; refine wpList_append_rd _ rfl _ _ 28 rfl (T + 1) 5 i0 Tryd.underlying28 hi hz0 hz1 hz2 _ n X rfl HO.out A1 n1 c1 l rfl HR.out HN.out.symm (by omega) (by omega) ?_)
    intro A2 c2 w2 ho hg hb _
    have k : ∀ i, w2.cell? ⟨T, i, none⟩ = w.cell? ⟨T, i, none⟩ := fun i => hb.cell (p := ⟨T, i, none⟩) (show T < T + 1 by omega)
    have f : ∀ i, w2.frozen? ⟨T, i, none⟩ = w.frozen? ⟨T, i, none⟩ := fun i => hb.frozen (p := ⟨T, i, none⟩) (show T < T + 1 by omega)
    have x0 := (k 0).trans HC.out.1
    have x1 := (k 1).trans HC.out.2.1
    have x2 := (f 0).trans HC.out.2.2.1
    have x3 := (f 1).trans HC.out.2.2.2
    have hsz := hb.size
    have HK : Hid (∀ k o, w.heap[k]? = some o → noRow o → k ≠ T → ((w2.setCell ⟨T, 0, none⟩ (.slice A2 (n + n1) c2)).setCell ⟨T, 1, none⟩ (.int .i64 e1)).heap[k]? = some o) := by
      intro k o hk ho2 hne
      rw [Below.heap_setCell _ _ _ _ (show k ≠ T from hne), Below.heap_setCell _ _ _ _ (show k ≠ T from hne)]
      exact (hg.block k (Array.getElem?_eq_some_iff.1 hk).1 (fun e' => own_noRow HO.out hk ho2 e'.symm)).trans hk
    have HO2 := Lib.hid ho
    have HB := Lib.hid (hb.mono (show T ≤ T + 1 by omega))
    have HF : Hid (Wr ((w2.setCell ⟨T, 0, none⟩ (.slice A2 (n + n1) c2)).setCell ⟨T, 1, none⟩ (.int .i64 e1)) T A2 c2 (n + n1) (X ++ l) e1 ∧ Below T w ((w2.setCell ⟨T, 0, none⟩ (.slice A2 (n + n1) c2)).setCell ⟨T, 1, none⟩ (.int .i64 e1))) := by
      refine ⟨⟨by simp; omega, ?_, ?_, ?_, ?_, ownsRow_setCell_below (ownsRow_setCell_below HO2.out (show T < T + 1 by omega) _) (show T < T + 1 by omega) _⟩, (HB.out.setCell (p := ⟨T, 0, none⟩) (Nat.le_refl _) _).setCell (p := ⟨T, 1, none⟩) (Nat.le_refl _) _⟩ <;> simp [go_sem, x0, x1, x2, x3]
    clear k f hb ho hg HC t1 t2 t3 t4
    go_wp2_with fail
    go_end0
    exact ⟨rfl, ⟨A2, c2, HF.out.1⟩, HF.out.2, HK.out⟩
  · have e2 : (e == 0) = false := by simpa using he
    have HE := Lib.hid he
    have HW := Lib.hid h
    obtain ⟨t0, t1, t2, t3, t4, t5⟩ := h
    clear t5 he
    go_enter Tryd.func34, Tryd.ntmps34
    go_wp2_with fail
    go_end0
    exact ⟨rfl, ⟨A, c, by rw [adX, if_neg HE.out, adE, if_neg HE.out, adN, if_neg HE.out]; exact HW.out⟩, Below.refl _ _, fun _ _ h _ _ => h⟩
theorem noRow_hcel (x : Mc) (m : Mh) : noRow (hcel x m) := fun cs q h => by
  rw [hcel] at h
  injection h with _ h _
  exact absurd h (by decide)
theorem mb_of {w : World} {B : Nat} {x : Mc} {m : Mh} (h : w.heap[B]? = some (hcel x m)) : Mb w B x m := by
  refine ⟨(Array.getElem?_eq_some_iff.1 h).1, ?_, ?_, ?_, ?_, ?_, ?_, ?_, ?_⟩ <;> (rw [hcel] at h; rw [cell_cells h]; rfl)
end Go.Proofs.YteimpkjpoijhmaaDoor
