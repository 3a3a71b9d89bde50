/-
  Layer 15: all (a range over a function), Used.
-/
import Derived.Test.YtibiocjdkndnhaaYf
import Derived.RangeFuncLeaves
import Derived.RangeFuncCalls
import Derived.RangeFuncRecord
import Derived.Shelf.Abstract
import Derived.Shelf.RegionOpen
import Derived.OwnWalkIn
import Derived.TacticsInMore
import Derived.LoopNIn
import Derived.LoopIn
namespace Go.Proofs.Ytibiocjdkndnhaa
open Go.RowKit
set_option maxRecDepth 100000
set_option linter.unusedSimpArgs false
set_option linter.unusedVariables false
attribute [local go_sem] Oper.semAt_some

theorem all15_v (p : Option Addr) (w : World) : Calls Try.prog 25 #[.pointer p] w fun e w' => e = .returned (.func (.func 26) #[] #[.pointer (some ⟨w.heap.size, 0, none⟩)]) ∧ w' = w.alloc (.cells #[.pointer p] 23) := by
  have hmf : ∀ (fn : Fn) (first cap : Array Value) (w : World), (Instr.makeFunc fn first cap).run Try.prog w = .ok (.func fn first cap) w := fun _ _ _ _ => rfl
  go_enter Try.func25, Try.ntmps25
  go_wp2_with fail
  go_ret
  exact ⟨rfl, rfl⟩
/-- A range over a function, outermost: the record as a letter with its fields told. -/
theorem rangeBy15 {n : Nat} {P : Program} {g : Operand} {ps : Array Tmp} {assign body : Code} {Q : Exit → Act → World → Prop} {a : Act} {w : World} (gf : Nat) (lb : Array Value)
    (hg : a.eval g = .func (.func gf) #[] lb) (eg : ∀ args w, (callFunc gf args).run P w = .ok (.enter gf args) w)
    (h : ∀ lp : Loop, lp.state = .ready → lp.pending = none → lp.tmps = a.tmps → lp.params = ps → lp.assign = assign → lp.body = body →
      CallsIn Fence.wide n P gf (#[.func (.yield (w.heap.size + 1)) #[] #[]] ++ lb) ((w.alloc (.deferred (some []))).alloc (.loop lp)) (rangePost Fence.wide (n + 1) P (w.heap.size + 1) Q { a with defers := { target := .collected w.heap.size, args := #[] } :: a.defers })) :
    (Code.rangeFunc g ps assign body).wpIn Fence.wide (n + 1) P Q a w := by
  refine wpIn_rangeFunc fun fn hfn => ?_
  obtain ⟨lp, hlp⟩ : ∃ lp : Loop, lp = { state := .ready, pending := none, fn, tmps := a.tmps, params := ps, assign, body, defers := w.heap.size } := ⟨_, rfl⟩
  refine ⟨w.heap.size + 1, [{ target := .collected w.heap.size, args := #[] }], (w.alloc (.deferred (some []))).alloc (.loop lp), { target := .fn (.func gf) lb, args := #[.func (.yield (w.heap.size + 1)) #[] #[]] }, (w.alloc (.deferred (some []))).alloc (.loop lp), gf,
    #[.func (.yield (w.heap.size + 1)) #[] #[]] ++ lb, (w.alloc (.deferred (some []))).alloc (.loop lp), ?_, ?_, ?_, ?_, fun _ => (by omega), ?_⟩
  · rw [hlp]; exact run_enterLoop_outer fn _ _ _ _
  · simp only [resolve, hg]
    simp [go_sem]
  · intro f' hf'; exact trivial
  · simp [invoke, go_sem, eg]
  · exact h lp (by rw [hlp]) (by rw [hlp]) (by rw [hlp]) (by rw [hlp]) (by rw [hlp]) (by rw [hlp])
theorem allN_in (v : Value) (s r n : Nat) (W : World) (hs : Boxed W s 23 v) (h : No15 W v) :
    CallsIn Fence.wide (n + 1) Try.prog 26 #[.func (.yield r) #[] #[], .pointer (some ⟨s, 0, none⟩)] W fun e W' => (∃ v, e = .returned v) ∧ W' = W := by
  have hc := hs.cell
  have hlt := hs.lt
  have HM := Lib.hid (made15_v v false W (.inr ⟨rfl, h⟩))
  clear hs h
  refine callsIn_of_wp Try.func26 rfl trivial ?_ rfl
  simp only [Try.ntmps26, List.size_toArray, List.length_cons, List.length_nil, Nat.reduceAdd, Nat.reduceSub, Array.replicate_succ, Array.replicate_zero, List.push_toArray, List.append_toArray, List.nil_append, List.cons_append]
  gi_wp2_with (refine ⟨trivial, ?_⟩; gi_at_call 20; refine (callsIn_wide.2 HM.out).mono ?_; rintro e w1 ⟨rfl, rfl⟩)
  refine bodyPost_ret (results_none rfl _ _ _) rfl ?_
  exact ⟨⟨_, rfl⟩, rfl⟩
set_option maxHeartbeats 4000000 in
theorem all_in (I : Nat → World → Prop) (B g ra c R : Nat) (Z : List (List Int)) (la : Addr) (P : List Value) (s r n m : Nat) (hm : Z.length = m) (hm9 : m ≤ 100000)
    (hI : ∀ i W, I i W → Boxed W s 23 (.pointer (some ⟨B, 0, none⟩)) ∧ Hq15 W B g ra c R Z la P)
    (hY : ∀ (i : Nat) (z : List Int) (a : Option Addr) (W : World), Z[i]? = some z → I i W → YieldAt Fence.wide n Try.prog r #[.slice a z.length z.length] W fun e W' => e = .returned (.bool true) ∧ I (i + 1) W')
    (W0 : World) (h0 : I 0 W0) :
    CallsIn Fence.wide (n + 1) Try.prog 26 #[.func (.yield r) #[] #[], .pointer (some ⟨s, 0, none⟩)] W0 fun e W' => (∃ v, e = .returned v) ∧ I m W' := by
  obtain ⟨hb, hq⟩ := hI _ _ h0
  have hcell := hb.cell
  have hlt := hb.lt
  have c1 := hq.c1
  rw [hm] at c1
  have HMD := Lib.hid (made15_t hq)
  have HY := Lib.hid hY
  have HI := Lib.hid hI
  have H0 := Lib.hid h0
  have HM := Lib.hid hm
  clear hY hI h0 hb hm hq
  refine callsIn_of_wp Try.func26 rfl trivial ?_ rfl
  simp only [Try.ntmps26, List.size_toArray, List.length_cons, List.length_nil, Nat.reduceAdd, Nat.reduceSub, Array.replicate_succ, Array.replicate_zero, List.push_toArray, List.append_toArray, List.nil_append, List.cons_append]
  gi_wp2_with (refine ⟨trivial, ?_⟩; gi_at_call 20; refine (callsIn_wide.2 HMD.out).mono ?_; rintro e w1 ⟨rfl, rfl⟩)
  gi_loopw [13] (fun v wr => ∃ (i : Nat), i ≤ m ∧ v = .int .i64 i ∧ Hid (I i wr)) (fun v _ => m - (intOf v).toNat)
  case atStart => exact ⟨0, Nat.zero_le _, rfl, H0⟩
  case round =>
    obtain ⟨i, hi, rfl, HI2⟩ := hrel
    clear hcell hlt H0 c1 HMD
    by_cases h1 : i < m
    · obtain ⟨hb, hq⟩ := HI.out _ _ HI2.out
      obtain ⟨z, hz⟩ : ∃ z, Z[i]? = some z := ⟨_, List.getElem?_eq_getElem (by rw [HM.out]; exact h1)⟩
      obtain ⟨a, ca, -⟩ := hq.at_ hz
      have hR3 := HY.out i z a wr hz HI2.out
      obtain ⟨q, hq9⟩ : ∃ q, z.length = q := ⟨_, rfl⟩
      rw [hq9] at ca hR3
      obtain ⟨fn, tmps, assign, body, hy, hR3⟩ := hR3
      have HR3 := Lib.hid hR3
      have hw : wrap64 ((i : Int) + 1) = i + 1 := by unfold wrap64; omega
      clear hR3 hb hq hz hq9
      gi_wp2
      refine HR3.out.mono ?_
      rintro e W3 ⟨rfl, hI3⟩
      have HI3 := Lib.hid hI3
      clear hI3 ca
      gi_wp2
      go_roundw
      case rel => exact ⟨i + 1, by omega, by simp [hw], HI3⟩
      case measure => simp [intOf, hw]; omega
    · obtain rfl : i = m := by omega
      gi_wp2
      go_end0
      exact ⟨⟨_, rfl⟩, HI2.out⟩
/-! The blocks of Used's loop: its sum, the heap's pointer, the two of the loop's record. -/
structure Bq15 where
  n : Nat
  s : Nat
  d : Nat
  r : Nat
def Bq15.ok (k : Bq15) : Prop := k.n < k.s ∧ k.s < k.d ∧ k.d < k.r
def Fq15 (k : Bq15) (W : World) (m : Nat) (v : Value) (lp : Loop) : Prop :=
  Boxed W k.n 3 (.int .i64 m) ∧ Boxed W k.s 23 v ∧ W.heap[k.d]? = some (.deferred (some [])) ∧ W.heap[k.r]? = some (.loop lp)
section
variable {k : Bq15} {W w : World} {v : Value} {lp : Loop} {m : Nat}
theorem Fq15.putR (h : Fq15 k W m v lp) (hk : k.ok) (q : Loop) : Fq15 k (W.putObj k.r (.loop q)) m v q := by
  obtain ⟨k1, k2, k3⟩ := hk
  obtain ⟨h1, h2, h3, h4⟩ := h
  have o := fun j (hj : j ≠ k.r) => World.putObj_heap_other (w := W) (o := .loop q) hj
  exact ⟨(o _ (by omega)).trans h1, (o _ (by omega)).trans h2, (o _ (by omega)).trans h3, World.putObj_heap_same (Array.getElem?_eq_some_iff.1 h4).1⟩
theorem Fq15.set (h : Fq15 k W m v lp) (hk : k.ok) (q : Nat) : Fq15 k (W.setCell ⟨k.n, 0, none⟩ (.int .i64 q)) q v lp := by
  obtain ⟨k1, k2, k3⟩ := hk
  obtain ⟨h1, h2, h3, h4⟩ := h
  have o := fun j (hj : j ≠ k.n) => Below.heap_setCell W ⟨k.n, 0, none⟩ (.int .i64 q) j hj
  exact ⟨h1.set _, (o _ (by omega)).trans h2, (o _ (by omega)).trans h3, (o _ (by omega)).trans h4⟩
theorem below15_put {B : Nat} {a w : World} (h : Below B a w) {r : Nat} (hr : B ≤ r) (o : Obj) : Below B a (w.putObj r o) := by
  refine ⟨h.os, h.tape, h.output, ?_, fun j hj => ?_⟩
  · rw [World.putObj_size]; exact h.size
  · rw [World.putObj_heap_other (by omega)]; exact h.block j hj
end
theorem Hp15.q {w w' : World} {B g ra c R : Nat} {Z : List (List Int)} {la : Addr} {P : List Value} (h : Hq15 w B g ra c R Z la P) (hb : Below w.heap.size w w') : Hq15 w' B g ra c R Z la P := h.fr (nb15 hb) id id id
theorem lpBack15 {lp : Loop} (h1 : lp.state = .ready) (h2 : lp.pending = none) : ({ lp with state := if (none : Option Code).isNone = true then .ready else .done, pending := none } : Loop) = lp := by
  cases lp
  simp at h1 h2 ⊢
  exact ⟨h1.symm, h2.symm⟩
/-- Between two rounds: the arrays ahead of i have been counted. -/
def Iq15 (k : Bq15) (w : World) (B : Nat) (Z : List (List Int)) (lp : Loop) (i : Nat) (W : World) : Prop := Fq15 k W (off15 Z i) (.pointer (some ⟨B, 0, none⟩)) lp ∧ Below k.n w W
theorem end_round15 {k : Bq15} {w W : World} {B i m : Nat} {Z : List (List Int)} {lp : Loop} {a : Act} (hk : k.ok) (h1 : lp.state = .ready) (h2 : lp.pending = none)
    (HP : Fq15 k W m (.pointer (some ⟨B, 0, none⟩)) { lp with state := .busy }) (hm : off15 Z (i + 1) = m) (hb : Below k.n w W) :
    roundPost Try.prog k.r (fun e W' => e = .returned (.bool true) ∧ Iq15 k w B Z lp (i + 1) W') .normal a W := by
  subst hm
  obtain ⟨k1, k2, k3⟩ := id hk
  refine ⟨_, _, run_endRound none HP.2.2.2, rfl, ?_, below15_put hb (by omega) _⟩
  have h' : Fq15 k (W.putObj k.r (.loop { lp with state := if (none : Option Code).isNone = true then .ready else .done, pending := none })) (off15 Z (i + 1)) (.pointer (some ⟨B, 0, none⟩)) lp := by
    rw [lpBack15 h1 h2]
    exact HP.putR hk lp
  exact h'
theorem No15.keep15 {w w' : World} {v : Value} (h : No15 w v) (hb : Below w.heap.size w w') : No15 w' v := by
  rcases h with h | ⟨B, h, hc⟩
  · exact .inl h
  · exact .inr ⟨B, h, (hb.cell (cell_lt hc)).trans hc⟩
set_option maxHeartbeats 8000000 in
theorem used15_v (X : Nat → Prop) (B R : Nat) (Z : List (List Int)) (w : World) (h : Hp15 X w B R Z) (hl : Z.length ≤ 100000) :
    Calls Try.prog 17 #[.pointer (some ⟨B, 0, none⟩)] w fun e w' => e = .returned (.int .i64 (us15 Z : Int)) ∧ Below w.heap.size w w' := by
  obtain ⟨g, ra, c, la, P, hq, -⟩ := h
  have HQ := Lib.hid hq
  have hroom := hq.room
  have hbig := hq.big
  clear hq
  refine (callsIn_wide (n := 3)).1 ?_
  refine callsIn_of_wp_marks Try.func17 rfl trivial ?_ rfl
  simp only [Try.ntmps17, List.size_toArray, List.length_cons, List.length_nil, Nat.reduceAdd, Nat.reduceSub, Array.replicate_succ, Array.replicate_zero, List.push_toArray, List.append_toArray, List.nil_append, List.cons_append]
  gi_wp2_with (refine ⟨trivial, ?_⟩; gi_at_call 25; refine (callsIn_wide.2 (all15_v (some ⟨B, 0, none⟩) _)).mono ?_; rintro e w1 ⟨rfl, rfl⟩)
  have hz : ((w.alloc (.cells #[.int .i64 0] 3)).alloc (.cells #[.pointer (some ⟨B, 0, none⟩)] 23)).heap.size = w.heap.size + 1 + 1 := by simp
  have b0 := (Boxed.new w 3 (.int .i64 0)).alloc (.cells #[.pointer (some ⟨B, 0, none⟩)] 23)
  have b1 := Boxed.new (w.alloc (.cells #[.int .i64 0] 3)) 23 (.pointer (some ⟨B, 0, none⟩))
  have hB : Below w.heap.size w ((w.alloc (.cells #[.int .i64 0] 3)).alloc (.cells #[.pointer (some ⟨B, 0, none⟩)] 23)) := ((Below.refl _ w).alloc (Nat.le_refl _) _).alloc (by rw [sz15]; omega) _
  rw [sz15] at b1
  generalize (w.alloc (.cells #[.int .i64 0] 3)).alloc (.cells #[.pointer (some ⟨B, 0, none⟩)] 23) = w1 at b0 b1 hB hz ⊢
  generalize hsB : w.heap.size + 1 = sB at b0 b1 hz ⊢
  refine rangeBy15 26 #[.pointer (some ⟨sB, 0, none⟩)] rfl (enters_of Try.func26 (by kernel_rfl) rfl) (fun lp q1 q2 q3 q4 q5 q6 => ?_)
  obtain ⟨k, kb, ks, kd, kr⟩ : ∃ k : Bq15, w.heap.size = k.n ∧ sB = k.s ∧ w1.heap.size = k.d ∧ w1.heap.size + 1 = k.r := ⟨⟨_, _, _, _⟩, rfl, rfl, rfl, rfl⟩
  subst ks
  have hk : k.ok := by unfold Bq15.ok; omega
  have hJ0 : Iq15 k w B Z lp 0 ((w1.alloc (.deferred (some []))).alloc (.loop lp)) := by
    have hd := World.alloc_heap_new w1 (.deferred (some []))
    have hr := World.alloc_heap_new (w1.alloc (.deferred (some []))) (.loop lp)
    rw [sz15, kr] at hr
    rw [kd] at hd
    have hbb : Below w.heap.size w ((w1.alloc (.deferred (some []))).alloc (.loop lp)) := (hB.alloc hB.size _).alloc (by rw [sz15]; have := hB.size; omega) _
    refine ⟨⟨?_, (b1.alloc _).alloc _, ?_, hr⟩, by rw [← kb]; exact hbb⟩
    · rw [← kb]; exact (b0.alloc _).alloc _
    · rw [Below.heap_alloc _ _ _ (by rw [sz15]; omega)]; exact hd
  have HJ0 := Lib.hid hJ0
  clear hJ0 b0 b1
  rw [kb] at q3
  rw [kb, kr, kd]
  have hY : Hid (∀ (i : Nat) (z : List Int) (a : Option Addr) (W : World), Z[i]? = some z → Iq15 k w B Z lp i W → YieldAt Fence.wide 1 Try.prog k.r #[.slice a z.length z.length] W fun e W' => e = .returned (.bool true) ∧ Iq15 k w B Z lp (i + 1) W') := by
    intro i z a W hx hI
    obtain ⟨hP, hBe⟩ := hI
    have hs := off15_succ hx
    have hle := off15_le hx
    obtain ⟨m, hm⟩ : ∃ m, off15 Z i = m := ⟨_, rfl⟩
    obtain ⟨q, hq⟩ : ∃ q, z.length = q := ⟨_, rfl⟩
    rw [hm] at hP hs hle
    rw [hq] at hs hle ⊢
    have hmq : m + q ≤ 1024 := by omega
    have HS := Lib.hid hs
    have hy := run_yield (P := Try.prog) (args := #[.slice a q q]) hP.2.2.2 (by rw [q4]; rfl)
    rw [q3, q4, q5, q6] at hy
    refine ⟨_, _, _, _, hy, roundIn_of_wpIn trivial ?_⟩
    have hrun := run_beginRound (P := Try.prog) hP.2.2.2 q1
    have HP := Lib.hid (hP.putR hk { lp with state := .busy })
    have HBe := Lib.hid (below15_put hBe (show k.n ≤ k.r by have := hk; unfold Bq15.ok at this; omega) (.loop { lp with state := .busy }))
    have hc1 := HP.out.1.cell
    have hf1 := HP.out.1.frozen
    have hl1 := HP.out.1.lt
    have Q1 := Lib.hid q1
    have Q2 := Lib.hid q2
    have hw : wrap64 ((m : Int) + q) = m + q := by unfold wrap64; omega
    clear hP hBe hy hx hs hle hm hq q1 q2 q3 q4 q5 q6 HJ0
    gi_wp2
    refine ⟨_, hrun, ?_⟩
    clear hrun
    generalize W.putObj k.r (.loop { lp with state := .busy }) = Wb at HP HBe hc1 hf1 hl1 ⊢
    clear hroom hbig hl HQ hB kd kr hsB hz
    gi_wp2
    exact end_round15 hk Q1.out Q2.out (HP.out.set hk (m + q)) HS.out (HBe.out.setCell (p := ⟨k.n, 0, none⟩) (Nat.le_refl _) _)
  clear q3 q4 q5 q6
  refine (all_in (Iq15 k w B Z lp) B g ra c R Z la P k.s k.r 1 Z.length rfl hl (fun i W hi => ⟨hi.1.2.1, Hp15.q HQ.out (by rw [kb]; exact hi.2)⟩) hY.out _ HJ0.out).mono ?_
  clear hY HJ0
  rintro e2 W2 ⟨⟨v2, rfl⟩, hP, hBe⟩
  rw [off15_full] at hP
  have hend := run_endLoop (P := Try.prog) hP.2.2.2 (by rw [q1]; simp)
  rw [q2] at hend
  refine ⟨none, _, hend, ?_⟩
  have hrec : ({ lp with state := .exhausted, pending := none } : Loop) = { lp with state := .exhausted } := by rw [← q2]
  rw [hrec]
  obtain ⟨k1, k2, k3⟩ := id hk
  have HP := Lib.hid (hP.putR hk { lp with state := .exhausted })
  have HBe := Lib.hid (below15_put hBe (r := k.r) (by omega) (.loop { lp with state := .exhausted }))
  clear hP hBe hend hrec HQ hroom hbig
  generalize ({ lp with state := .exhausted } : Loop) = lq at HP HBe ⊢
  generalize W2.putObj k.r (.loop lq) = W3 at HP HBe ⊢
  have hc1 := HP.out.1.cell
  have HD := Lib.hid HP.out.2.2.1
  clear hB kd kr hsB hz hl
  dsimp only
  gi_wp2
  refine ⟨by simp, .inl ⟨_, _, rfl, run_takeDeferred HD.out, ?_⟩⟩
  have h2 := below15_put HBe.out (r := k.d) (by omega) (.deferred none)
  rw [← kb] at h2
  simp [LeavesInM, LeavesIn, results, Try.results17, go_sem]
  exact h2
set_option maxHeartbeats 8000000 in
theorem usedN_v (p : Option Addr) (w : World) (h : No15 w (.pointer p)) :
    Calls Try.prog 17 #[.pointer p] w fun e w' => e = .returned (.int .i64 0) ∧ Below w.heap.size w w' := by
  have HQ := Lib.hid h
  clear h
  refine (callsIn_wide (n := 3)).1 ?_
  refine callsIn_of_wp_marks Try.func17 rfl trivial ?_ rfl
  simp only [Try.ntmps17, List.size_toArray, List.length_cons, List.length_nil, Nat.reduceAdd, Nat.reduceSub, Array.replicate_succ, Array.replicate_zero, List.push_toArray, List.append_toArray, List.nil_append, List.cons_append]
  gi_wp2_with (refine ⟨trivial, ?_⟩; gi_at_call 25; refine (callsIn_wide.2 (all15_v p _)).mono ?_; rintro e w1 ⟨rfl, rfl⟩)
  have hz : ((w.alloc (.cells #[.int .i64 0] 3)).alloc (.cells #[.pointer p] 23)).heap.size = w.heap.size + 1 + 1 := by simp
  have b0 := (Boxed.new w 3 (.int .i64 0)).alloc (.cells #[.pointer p] 23)
  have b1 := Boxed.new (w.alloc (.cells #[.int .i64 0] 3)) 23 (.pointer p)
  have hB : Below w.heap.size w ((w.alloc (.cells #[.int .i64 0] 3)).alloc (.cells #[.pointer p] 23)) := ((Below.refl _ w).alloc (Nat.le_refl _) _).alloc (by rw [sz15]; omega) _
  rw [sz15] at b1
  generalize (w.alloc (.cells #[.int .i64 0] 3)).alloc (.cells #[.pointer p] 23) = w1 at b0 b1 hB hz ⊢
  generalize hsB : w.heap.size + 1 = sB at b0 b1 hz ⊢
  refine rangeBy15 26 #[.pointer (some ⟨sB, 0, none⟩)] rfl (enters_of Try.func26 (by kernel_rfl) rfl) (fun lp q1 q2 q3 q4 q5 q6 => ?_)
  obtain ⟨k, kb, ks, kd, kr⟩ : ∃ k : Bq15, w.heap.size = k.n ∧ sB = k.s ∧ w1.heap.size = k.d ∧ w1.heap.size + 1 = k.r := ⟨⟨_, _, _, _⟩, rfl, rfl, rfl, rfl⟩
  subst ks
  have hk : k.ok := by unfold Bq15.ok; omega
  have hJ0 : Fq15 k ((w1.alloc (.deferred (some []))).alloc (.loop lp)) 0 (.pointer p) lp ∧ Below k.n w ((w1.alloc (.deferred (some []))).alloc (.loop lp)) := by
    have hd := World.alloc_heap_new w1 (.deferred (some []))
    have hr := World.alloc_heap_new (w1.alloc (.deferred (some []))) (.loop lp)
    rw [sz15, kr] at hr
    rw [kd] at hd
    have hbb : Below w.heap.size w ((w1.alloc (.deferred (some []))).alloc (.loop lp)) := (hB.alloc hB.size _).alloc (by rw [sz15]; have := hB.size; omega) _
    refine ⟨⟨?_, (b1.alloc _).alloc _, ?_, hr⟩, by rw [← kb]; exact hbb⟩
    · rw [← kb]; exact (b0.alloc _).alloc _
    · rw [Below.heap_alloc _ _ _ (by rw [sz15]; omega)]; exact hd
  have HJ0 := Lib.hid hJ0
  clear hJ0 b0 b1
  rw [kb] at q3
  rw [kb, kr, kd]
  clear q3 q4 q5 q6
  have hno := HQ.out.keep15 (w' := (w1.alloc (.deferred (some []))).alloc (.loop lp)) (by rw [kb]; exact HJ0.out.2)
  refine (allN_in (.pointer p) k.s k.r 1 _ HJ0.out.1.2.1 hno).mono ?_
  clear hno
  rintro e2 W2 ⟨⟨v2, rfl⟩, rfl⟩
  obtain ⟨hP, hBe⟩ := HJ0.out
  generalize (w1.alloc (.deferred (some []))).alloc (.loop lp) = W2 at hP hBe ⊢
  have hend := run_endLoop (P := Try.prog) hP.2.2.2 (by rw [q1]; simp)
  rw [q2] at hend
  refine ⟨none, _, hend, ?_⟩
  have hrec : ({ lp with state := .exhausted, pending := none } : Loop) = { lp with state := .exhausted } := by rw [← q2]
  rw [hrec]
  obtain ⟨k1, k2, k3⟩ := id hk
  have HP := Lib.hid (hP.putR hk { lp with state := .exhausted })
  have HBe := Lib.hid (below15_put hBe (r := k.r) (by omega) (.loop { lp with state := .exhausted }))
  clear hP hBe hend hrec HQ HJ0
  generalize ({ lp with state := .exhausted } : Loop) = lq at HP HBe ⊢
  generalize W2.putObj k.r (.loop lq) = W3 at HP HBe ⊢
  have hc1 := HP.out.1.cell
  have HD := Lib.hid HP.out.2.2.1
  clear hB kd kr hsB hz
  dsimp only
  gi_wp2
  refine ⟨by simp, .inl ⟨_, _, rfl, run_takeDeferred HD.out, ?_⟩⟩
  have h2 := below15_put HBe.out (r := k.d) (by omega) (.deferred none)
  rw [← kb] at h2
  simp [LeavesInM, LeavesIn, results, Try.results17, go_sem]
  exact h2
end Go.Proofs.Ytibiocjdkndnhaa
