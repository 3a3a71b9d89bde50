/-
  Layer 7, package method: a list's all, whatever the round's body makes of its numbers; a range over such a method value; the end of a frame that bears marks.
-/
import Derived.Test.YtjdalgejejllgaaDoorHp
import Derived.RangeFuncBox
import Derived.RangeFuncLeaves
import Derived.RangeFuncCalls
import Derived.RangeFuncRecord
import Derived.Shelf.RegionOpen
import Derived.OwnWalkIn
import Derived.TacticsInMore
import Derived.LoopNIn
import Derived.LoopIn
namespace Go.Proofs.YtjdalgejejllgaaDoor
open Go.RowKit
set_option maxRecDepth 100000
set_option linter.unusedSimpArgs false
set_option linter.unusedVariables false
attribute [local go_sem] Oper.semAt_some

set_option maxHeartbeats 4000000 in
theorem allU_in (n r : Nat) (x y z : Int) (A : Option Addr) (c : Nat) (l : List Int) (hl : l.length ≤ 9223372036854775807) (It : Nat → World → Prop) (Jf : World → Prop) (W0 : World)
    (hC : ∀ j W, It j W → (W.cell? ⟨W0.heap.size, 0, none⟩ = some (.int .i64 x) ∧ W.cell? ⟨W0.heap.size, 1, none⟩ = some (.int .i64 y) ∧ W.cell? ⟨W0.heap.size, 2, none⟩ = some (.int .i64 z) ∧ W.cell? ⟨W0.heap.size, 3, none⟩ = some (.slice A l.length c)) ∧ Rd W A c l)
    (hY : ∀ j W (hj : j < l.length), It j W → YieldAt Fence.wide n Tryd.prog r #[fv x y z, .int .i64 l[j]] W fun e W' => (e = .returned (.bool true) ∧ It (j + 1) W') ∨ (e = .returned (.bool false) ∧ Jf W'))
    (h0 : It 0 (W0.alloc (.cells #[.int .i64 x, .int .i64 y, .int .i64 z, .slice A l.length c] 83))) :
    CallsIn Fence.wide (n + 1) Tryd.prog 51 #[.agg #[.int .i64 x, .int .i64 y, .int .i64 z, .slice A l.length c], .func (.yield r) #[] #[]] W0 fun e W' => (∃ v, e = .returned v) ∧ (It l.length W' ∨ Jf W') := by
  have HC := Lib.hid hC
  have HY := Lib.hid hY
  have H0 := Lib.hid h0
  clear hC hY h0
  refine callsIn_of_wp Tryd.func51 rfl trivial ?_ rfl
  simp only [Tryd.ntmps51, List.size_toArray, List.length_cons, List.length_nil, Nat.reduceAdd, Nat.reduceSub, Array.replicate_succ, Array.replicate_zero, List.push_toArray, List.append_toArray, List.nil_append, List.cons_append]
  gi_wp2
  gi_loopw [9] (fun i wr => ∃ j : Nat, j ≤ l.length ∧ i = .int .i64 j ∧ Hid (It j wr)) (fun i _ => l.length - (intOf i).toNat)
  case atStart => exact ⟨0, by omega, rfl, H0⟩
  case round =>
    obtain ⟨j, hj, rfl, HI⟩ := hrel
    obtain ⟨⟨c0, c1, c2, c3⟩, hcell⟩ := HC.out _ _ HI.out
    by_cases h1 : j < l.length
    · obtain ⟨ad, rfl, hc⟩ := hcell.at_ h1
      have hbd := hcell.byt _ (List.getElem_mem h1)
      rw [List.getElem?_eq_getElem h1] at hc
      simp only [Option.getD_some] at hc
      obtain ⟨fn, tmps, assign, body, hy, hR3⟩ := HY.out j _ h1 HI.out
      generalize l[j] = e1 at *
      have HR3 := Lib.hid hR3
      clear hR3 HI
      gi_wp2
      refine HR3.out.mono ?_
      rintro e W3 (⟨rfl, hI3⟩ | ⟨rfl, hJ⟩)
      · have HI3 := Lib.hid hI3
        clear hI3
        gi_wp2
        go_roundw
        case rel => exact ⟨j + 1, by omega, by go_num, HI3⟩
        case measure => simp [intOf]; omega
      · have HJ := Lib.hid hJ
        clear hJ
        gi_wp2
        refine bodyPost_ret (results_none rfl _ _ _) rfl ?_
        exact ⟨⟨_, rfl⟩, .inr HJ.out⟩
    · obtain rfl : j = l.length := by omega
      gi_wp2
      refine bodyPost_end (results_none rfl _ _ _) rfl ?_
      exact ⟨⟨_, rfl⟩, .inl HI.out⟩
set_option maxHeartbeats 4000000 in
theorem allI_in (n r : Nat) (x y z : Int) (g : Nat) (e0 : Int) (It : Nat → World → Prop) (Jf : World → Prop) (W0 : World)
    (hC : ∀ j W, It j W → (W.cell? ⟨W0.heap.size, 0, none⟩ = some (.int .i64 x) ∧ W.cell? ⟨W0.heap.size, 1, none⟩ = some (.int .i64 y) ∧ W.cell? ⟨W0.heap.size, 2, none⟩ = some (.int .i64 z) ∧ W.cell? ⟨W0.heap.size, 3, none⟩ = some (.slice (some ⟨g, 0, none⟩) 1 1)) ∧ W.cell? ⟨g, 0, none⟩ = some (.int .i64 e0))
    (hY : ∀ W, It 0 W → YieldAt Fence.wide n Tryd.prog r #[fv x y z, .int .i64 e0] W fun e W' => (e = .returned (.bool true) ∧ It 1 W') ∨ (e = .returned (.bool false) ∧ Jf W'))
    (h0 : It 0 (W0.alloc (.cells #[.int .i64 x, .int .i64 y, .int .i64 z, .slice (some ⟨g, 0, none⟩) 1 1] 80))) :
    CallsIn Fence.wide (n + 1) Tryd.prog 49 #[.agg #[.int .i64 x, .int .i64 y, .int .i64 z, .slice (some ⟨g, 0, none⟩) 1 1], .func (.yield r) #[] #[]] W0 fun e W' => (∃ v, e = .returned v) ∧ (It 1 W' ∨ Jf W') := by
  have HC := Lib.hid hC
  have HY := Lib.hid hY
  have H0 := Lib.hid h0
  clear hC hY h0
  refine callsIn_of_wp Tryd.func49 rfl trivial ?_ rfl
  simp only [Tryd.ntmps49, List.size_toArray, List.length_cons, List.length_nil, Nat.reduceAdd, Nat.reduceSub, Array.replicate_succ, Array.replicate_zero, List.push_toArray, List.append_toArray, List.nil_append, List.cons_append]
  gi_wp2
  gi_loopw [9] (fun i wr => ∃ j : Nat, j ≤ 1 ∧ i = .int .i64 j ∧ Hid (It j wr)) (fun i _ => 1 - (intOf i).toNat)
  case atStart => exact ⟨0, by omega, rfl, H0⟩
  case round =>
    obtain ⟨j, hj, rfl, HI⟩ := hrel
    obtain ⟨⟨c0, c1, c2, c3⟩, hcell⟩ := HC.out _ _ HI.out
    by_cases h1 : j < 1
    · obtain rfl : j = 0 := by omega
      obtain ⟨fn, tmps, assign, body, hy, hR3⟩ := HY.out _ HI.out
      have HR3 := Lib.hid hR3
      clear hR3 HI
      gi_wp2
      refine HR3.out.mono ?_
      rintro e W3 (⟨rfl, hI3⟩ | ⟨rfl, hJ⟩)
      · have HI3 := Lib.hid hI3
        clear hI3
        gi_wp2
        go_roundw
        case rel => exact ⟨1, by omega, by go_num, HI3⟩
        case measure => simp [intOf]
      · have HJ := Lib.hid hJ
        clear hJ
        gi_wp2
        refine bodyPost_ret (results_none rfl _ _ _) rfl ?_
        exact ⟨⟨_, rfl⟩, .inr HJ.out⟩
    · obtain rfl : j = 1 := by omega
      gi_wp2
      refine bodyPost_end (results_none rfl _ _ _) rfl ?_
      exact ⟨⟨_, rfl⟩, .inl HI.out⟩
/-- A range over a method value, in a frame outermost that may bear marks: the record as a letter with its fields told. -/
theorem range_m {n : Nat} {P : Program} {g : Operand} {ps : Array Tmp} {assign body : Code} {Q : Exit → Act → World → Prop} {a : Act} {w : World} (gf : Nat) (fi : Array Value)
    (hg : a.eval g = .func (.func gf) fi #[]) (eg : ∀ args w, (callFunc gf args).run P w = .ok (.enter gf args) w)
    (h : ∀ lp : Loop, lp.state = .ready → lp.pending = none → lp.tmps = a.tmps → lp.params = ps → lp.assign = assign → lp.body = body →
      CallsIn Fence.wide n P gf (fi ++ #[.func (.yield (w.heap.size + 1)) #[] #[]]) ((w.alloc (.deferred (some []))).alloc (.loop lp)) (rangePost Fence.wide (n + 1) P (w.heap.size + 1) Q { a with defers := { target := .collected w.heap.size, args := #[] } :: a.defers })) :
    (Code.rangeFunc g ps assign body).wpIn Fence.wide (n + 1) P Q a w := by
  refine wpIn_rangeFunc fun fn hfn => ?_
  obtain ⟨lp, hlp⟩ : ∃ lp : Loop, lp = { state := .ready, pending := none, fn, tmps := a.tmps, params := ps, assign, body, defers := w.heap.size } := ⟨_, rfl⟩
  refine ⟨w.heap.size + 1, [{ target := .collected w.heap.size, args := #[] }], (w.alloc (.deferred (some []))).alloc (.loop lp), { target := .fn (.func gf) #[], args := fi ++ #[.func (.yield (w.heap.size + 1)) #[] #[]] }, (w.alloc (.deferred (some []))).alloc (.loop lp), gf,
    fi ++ #[.func (.yield (w.heap.size + 1)) #[] #[]], (w.alloc (.deferred (some []))).alloc (.loop lp), ?_, ?_, ?_, ?_, fun _ => (by omega), ?_⟩
  · rw [hlp]; exact run_enterLoop_outer fn _ _ _ _
  · simp only [resolve, hg]
    simp [go_sem]
  · intro f' hf'; exact trivial
  · simp [invoke, go_sem, eg]
  · exact h lp (by rw [hlp]) (by rw [hlp]) (by rw [hlp]) (by rw [hlp]) (by rw [hlp]) (by rw [hlp])
def mks (Ds : List Nat) : List Deferred := Ds.map fun D => { target := .collected D, args := #[] }
/-- The end of a frame with marks: each block is shut, one by one. -/
theorem leaves_marks {F : Fence} {n : Nat} {P : Program} {fn : Func} {tmps : Array Value} {R : Ending → World → Prop} (I : World → Prop) : ∀ (Ds : List Nat) (W : World), I W → (∀ D ∈ Ds, W.heap[D]? = some (.deferred (some []))) → Ds.Nodup →
    (∀ W D, D ∈ Ds → W.heap[D]? = some (.deferred (some [])) → I W → I (W.putObj D (.deferred none))) → (∀ W', I W' → LeavesIn F n P fn tmps R [] .returning W') → LeavesInM F n P fn tmps R (mks Ds) .returning W
  | [], W, hI, _, _, _, hR => hR W hI
  | D :: Ds, W, hI, hD, hn, hp, hR => by
    have h0 := hD D (by simp)
    have hn' := List.nodup_cons.1 hn
    refine ⟨by simp, .inl ⟨D, _, rfl, run_takeDeferred h0, ?_⟩⟩
    exact leaves_marks I Ds _ (hp W D (by simp) h0 hI) (fun E hE => by
      rw [World.putObj_heap_other (fun e => hn'.1 (by rw [← e]; exact hE))]
      exact hD E (by simp [hE])) hn'.2 (fun W' E hE => hp W' E (by simp [hE])) hR
theorem lp7_back {lp : Loop} (h1 : lp.state = .ready) (h2 : lp.pending = none) : ({ lp with state := if (none : Option Code).isNone = true then .ready else .done, pending := none } : Loop) = lp := by
  cases lp
  simp at h1 h2 ⊢
  exact ⟨h1.symm, h2.symm⟩
end Go.Proofs.YtjdalgejejllgaaDoor
