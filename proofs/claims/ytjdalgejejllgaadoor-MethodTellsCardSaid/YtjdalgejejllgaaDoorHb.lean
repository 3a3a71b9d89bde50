/-
  Layer 7, package method: what May answers.
-/
import Derived.Test.YtjdalgejejllgaaDoorHa
import Derived.Test.YtjdalgejejllgaaDoorHm
namespace Go.Proofs.YtjdalgejejllgaaDoor
open Go.RowKit
set_option maxRecDepth 100000
set_option linter.unusedSimpArgs false
set_option linter.unusedVariables false
attribute [local go_sem] Oper.semAt_some

def okN (f : Int × Int × Int) (n : Int) : Bool := decide (f.2.1 ≤ n) && decide (n ≤ f.2.2)
def okF (f : (Int × Int × Int) × List Int) : Bool := f.2.all (okN f.1)
theorem mM_PT (m : Mh) : mM m = (PT m).all okF := by
  rw [Bool.eq_iff_iff, mM_iff]
  obtain ⟨a, l, r, q, f, s, h⟩ := m
  simp only [PT, okF, List.all_cons, List.all_nil, Bool.and_true, okN, kO, Bool.and_eq_true, decide_eq_true_eq]
  have hq : 0 ≤ fl q ∧ fl q ≤ 1 := by cases q <;> decide
  constructor
  · rintro ⟨h1, h2, h3, h4, h5, h6, h7, h8⟩
    refine ⟨by omega, h3, by omega, h4, h5, hq, h6, h7, h8⟩
  · rintro ⟨h1, h3, h2, h4, h5, _, h6, h7, h8⟩
    refine ⟨by omega, by omega, h3, h4, h5, h6, h7, h8⟩
/-- The body has said no: the result's cell at T says so, the record r bears the way out; all else lies as it lay. -/
def No7 (T r : Nat) (W W' : World) : Prop := Boxed W' T 4 (.bool false) ∧ Below T W W' ∧ (∃ lp : Loop, W'.heap[r]? = some (.loop lp) ∧ lp.state = .done ∧ lp.pending = some .ret) ∧ ∀ k, k ≠ T → k ≠ r → k < W.heap.size → W'.heap[k]? = W.heap[k]?
/-- At the head of May's loop over the lists, in its round j, behind Ds. -/
def At7 (T : Nat) (w2 : World) (m : Mh) (j : Nat) (Ds : List Nat) (W : World) : Prop :=
  Below w2.heap.size w2 W ∧ ((PT m).take j).all okF = true ∧ (∀ D ∈ Ds, W.heap[D]? = some (.deferred (some [])) ∧ w2.heap.size ≤ D) ∧ Ds.Nodup
theorem cell_putObj {w : World} {r : Nat} {o : Obj} {a : Addr} (h : a.block ≠ r) : (w.putObj r o).cell? a = w.cell? a := by
  simp only [World.cell?]
  rw [World.putObj_heap_other h]
theorem T3.putObj {w : World} {B r : Nat} {x y z : Int} (h : T3 w B x y z) (hr : B ≠ r) (o : Obj) : T3 (w.putObj r o) B x y z :=
  ⟨by rw [World.putObj_size]; exact h.1, (cell_putObj hr).trans h.2.1, (cell_putObj hr).trans h.2.2.1, (cell_putObj hr).trans h.2.2.2⟩
theorem boxed_put {w : World} {B r : Nat} {t : TypeId} {v : Value} (h : Boxed w B t v) (hr : B ≠ r) (o : Obj) : Boxed (w.putObj r o) B t v := (World.putObj_heap_other hr).trans h
theorem take_all {m : Mh} {j : Nat} {f : (Int × Int × Int) × List Int} (h : (PT m)[j]? = some f) (ht : ((PT m).take j).all okF = true) : ((PT m).take (j + 1)).all okF = okF f := by
  rw [List.take_add_one, List.all_append, ht, h]
  simp
theorem PT_len (m : Mh) : (PT m).length = 9 := rfl
theorem PT_no {m : Mh} {j : Nat} {f : (Int × Int × Int) × List Int} (h : (PT m)[j]? = some f) (hf : okF f = false) : mM m = false := by
  rw [mM_PT, List.all_eq_false]
  exact ⟨f, List.mem_of_getElem? h, by rw [hf]; decide⟩
/-- May's frame and memory at the head of its loop. -/
def May7 (x : Mc) (m : Mh) (w w2 : World) (B9 : Nat) (a : Act) (W : World) : Prop := ∃ (j : Nat) (u3 u4 u5 u6 u7 u11 u12 u13 u14 u15 u16 u17 u18 u19 u20 u21 : Value) (Ds : List Nat), j ≤ 9 ∧ a = { tmps := #[mv x m, .pointer (some ⟨w.heap.size, 0, none⟩), .pointer (some ⟨w.heap.size + 1, 0, none⟩), u3, u4, u5, u6, u7, .slice (some ⟨B9, 0, none⟩) 9 9, .int .i64 9, .int .i64 j, u11, u12, u13, u14, u15, u16, u17, u18, u19, u20, u21], defers := mks Ds } ∧ At7 (w.heap.size + 1) w2 m j Ds W
/-- May's end. -/
theorem may_end (T : Nat) (w : World) (b : Bool) (Ds : List Nat) (tm : Array Value) (W : World) (ht : tm[2]? = some (.pointer (some ⟨T, 0, none⟩))) (hTw : w.heap.size < T) (hT : Boxed W T 4 (.bool b)) (hB : Below w.heap.size w W) (hD : ∀ D ∈ Ds, W.heap[D]? = some (.deferred (some [])) ∧ T < D) (hn : Ds.Nodup) {v : Bool} (hv : b = v) :
    LeavesInM Fence.wide 3 Tryd.prog Tryd.f11 tm (fun e w' => e = .returned (.bool v) ∧ Below w.heap.size w w') (mks Ds) .returning W := by
  subst hv
  refine leaves_marks (fun X => Boxed X T 4 (.bool b) ∧ Below w.heap.size w X) Ds W ⟨hT, hB⟩ (fun D hd => (hD D hd).1) hn (fun X D hd _ hI => ?_) (fun X hI => ?_)
  · have hTD := (hD D hd).2
    refine ⟨boxed_put hI.1 (by omega) _, ?_⟩
    have h2 := hI.2
    exact ⟨h2.os, h2.tape, h2.output, by rw [World.putObj_size]; exact h2.size, fun k hk => (World.putObj_heap_other (by omega)).trans (h2.block k hk)⟩
  · have c1 := hI.1.cell
    have t2 : tm[2]?.getD undef = .pointer (some ⟨T, 0, none⟩) := by rw [ht]; rfl
    simp [LeavesIn, results, Tryd.results11, go_sem, c1, t2]
    exact hI.2
set_option maxHeartbeats 8000000 in
theorem mmay_v (x : Mc) (m : Mh) (v : Bool) (w : World) (hx : Hd w x m) (hw : GM w) (hv : mM m = v) : Calls Tryd.prog 11 #[mv x m] w fun e w' => e = .returned (.bool v) ∧ Below w.heap.size w w' := by
  have HV := Lib.hid hv
  have hb00 : Below w.heap.size w ((w.alloc (hcel x m)).alloc (.cells #[.bool false] 4)) := new1.alloc (by simp) _
  have hT0 := Boxed.new (w.alloc (hcel x m)) 4 (.bool false)
  rw [size1] at hT0
  have KP := Lib.hid (parts_v (w.heap.size + 1) x m _ (hx.keep hb00) (hw.keep hb00) (by simp) (fun ad h0 h1 => by have := rd_lt hx.1 h0 h1; omega) (fun ad h0 h1 => by have := rd_lt hx.2.1 h0 h1; omega))
  have HT0 := Lib.hid hT0
  clear hx hw hv hb00 hT0
  refine (callsIn_wide (n := 3)).1 ?_
  refine callsIn_of_wp_marks Tryd.func11 rfl trivial ?_ rfl
  simp only [Tryd.ntmps11, List.size_toArray, List.length_cons, List.length_nil, Nat.reduceAdd, Nat.reduceSub, Array.replicate_succ, Array.replicate_zero, List.push_toArray, List.append_toArray, List.nil_append, List.cons_append]
  gi_wp2_with (refine ⟨trivial, ?_⟩; gi_at_call 31; refine (callsIn_wide.2 KP.out).mono ?_; rintro e w2 ⟨B9, rfl, h9, hb2⟩)
  have HT2 : Hid (Boxed w2 (w.heap.size + 1) 4 (.bool false)) := Lib.hid ((hb2.block _ (by simp)).trans HT0.out)
  have HB2 : Hid (Below w.heap.size w w2) := Lib.hid (below_on (new1.alloc (by simp) _) hb2)
  have hT2 : w.heap.size + 2 ≤ w2.heap.size := by have := hb2.size; simpa using this
  have H9 := Lib.hid h9
  clear h9 hb2 KP HT0
  refine wpIn_loop (May7 x m w w2 B9)
    (fun a _ => 9 - (intOf (a.tmps.getD 10 undef)).toNat) ?_ ?_
  · exact ⟨0, _, _, _, _, _, _, _, _, _, _, _, _, _, _, _, _, [], by omega, rfl, ⟨Below.refl _ _, rfl, fun D hD => (by cases hD), List.nodup_nil⟩⟩
  · rintro a W ⟨j, u3, u4, u5, u6, u7, u11, u12, u13, u14, u15, u16, u17, u18, u19, u20, u21, Ds, hj, rfl, hA⟩
    have HA := Lib.hid hA
    clear hA
    by_cases h1 : j < 9
    · obtain ⟨f, hf⟩ : ∃ f, (PT m)[j]? = some f := ⟨_, List.getElem?_eq_getElem (by rw [PT_len]; exact h1)⟩
      obtain ⟨⟨fx, fy, fz⟩, ns⟩ := f
      obtain ⟨fvv, hfc, hfp⟩ := (H9.out.keep HA.out.1).2.2 j _ hf
      have hb9 := H9.out.1
      have HF := Lib.hid hf
      clear hf
      have hT := HT2.out
      have hTW : Boxed W (w.heap.size + 1) 4 (.bool false) := (HA.out.1.block _ (by omega)).trans hT
      have HTW := Lib.hid hTW
      have hsz2 := HA.out.1.size
      clear hT hTW
      have hmk : ∀ lp : Loop, lp.state = .ready → lp.pending = none → True := fun _ _ _ => trivial
      rcases hfp with ⟨e0, hns, g0, rfl, hg1, hg2, hg3⟩ | ⟨A0, c0, rfl, hrd, hne⟩
      · dsimp only at hns
        subst hns
        gi_wp2
        refine range_m 49 #[.agg #[.int .i64 fx, .int .i64 fy, .int .i64 fz, .slice (some ⟨g0, 0, none⟩) 1 1]] rfl (enters_of Tryd.func49 (by kernel_rfl) rfl) (fun lp q1 q2 q3 q4 q5 q6 => ?_)
        have hY : ∀ Wc n0, Wc.heap[W.heap.size + 1]? = some (.loop lp) → Boxed Wc (w.heap.size + 1) 4 (.bool false) → YieldAt Fence.wide 1 Tryd.prog (W.heap.size + 1) #[fv fx fy fz, .int .i64 n0] Wc fun e W' =>
            (e = .returned (.bool true) ∧ okN (fx, fy, fz) n0 = true ∧ Below Wc.heap.size Wc W') ∨ (e = .returned (.bool false) ∧ okN (fx, fy, fz) n0 = false ∧ No7 (w.heap.size + 1) (W.heap.size + 1) Wc W') := by
          intro Wc n0 hlp hTc
          have hy := run_yield (P := Tryd.prog) (args := #[fv fx fy fz, .int .i64 n0]) hlp (by rw [q4]; rfl)
          rw [q3, q4, q5, q6] at hy
          refine ⟨_, _, _, _, hy, roundIn_of_wpIn trivial ?_⟩
          have hlp1 : (Wc.alloc (.cells #[.int .i64 fx, .int .i64 fy, .int .i64 fz] 59)).heap[W.heap.size + 1]? = some (.loop lp) := (Below.heap_alloc _ _ _ (Array.getElem?_eq_some_iff.1 hlp).1).trans hlp
          have hrun := run_beginRound (P := Tryd.prog) hlp1 q1
          have HLP := Lib.hid hlp
          have HTC := Lib.hid hTc
          have Q1 := Lib.hid q1
          have Q2 := Lib.hid q2
          clear hy q1 q2 q3 q4 q5 q6 hlp1 hlp hTc hfc
          gi_wp2
          refine ⟨_, hrun, ?_⟩
          clear hrun
          have hrT : w.heap.size + 1 ≠ W.heap.size + 1 := by omega
          have hrl := (Array.getElem?_eq_some_iff.1 HLP.out).1
          have hP : Hid (T3 ((Wc.alloc (.cells #[.int .i64 fx, .int .i64 fy, .int .i64 fz] 59)).putObj (W.heap.size + 1) (.loop { lp with state := .busy })) Wc.heap.size fx fy fz ∧ Boxed ((Wc.alloc (.cells #[.int .i64 fx, .int .i64 fy, .int .i64 fz] 59)).putObj (W.heap.size + 1) (.loop { lp with state := .busy })) (w.heap.size + 1) 4 (.bool false) ∧
              ((Wc.alloc (.cells #[.int .i64 fx, .int .i64 fy, .int .i64 fz] 59)).putObj (W.heap.size + 1) (.loop { lp with state := .busy })).heap[W.heap.size + 1]? = some (.loop { lp with state := .busy }) ∧ (Below (w.heap.size + 1) Wc ((Wc.alloc (.cells #[.int .i64 fx, .int .i64 fy, .int .i64 fz] 59)).putObj (W.heap.size + 1) (.loop { lp with state := .busy }))) ∧
              (∀ k, k ≠ W.heap.size + 1 → k < Wc.heap.size → ((Wc.alloc (.cells #[.int .i64 fx, .int .i64 fy, .int .i64 fz] 59)).putObj (W.heap.size + 1) (.loop { lp with state := .busy })).heap[k]? = Wc.heap[k]?) ∧ Wc.heap.size < ((Wc.alloc (.cells #[.int .i64 fx, .int .i64 fy, .int .i64 fz] 59)).putObj (W.heap.size + 1) (.loop { lp with state := .busy })).heap.size) := by
            have hbb : Below Wc.heap.size Wc (Wc.alloc (.cells #[.int .i64 fx, .int .i64 fy, .int .i64 fz] 59)) := new1
            refine ⟨(T3.new Wc fx fy fz _).putObj (by omega) _, boxed_put (HTC.out.alloc _) hrT _, World.putObj_heap_same (by simp; omega), ?_, fun k hk hl => (World.putObj_heap_other hk).trans (hbb.block k hl), by rw [World.putObj_size]; simp⟩
            have h1 := hbb.mono (show w.heap.size + 1 ≤ Wc.heap.size by omega)
            exact ⟨h1.os, h1.tape, h1.output, by rw [World.putObj_size]; exact h1.size, fun k hk => (World.putObj_heap_other (by omega)).trans (h1.block k hk)⟩
          generalize (Wc.alloc (.cells #[.int .i64 fx, .int .i64 fy, .int .i64 fz] 59)).putObj (W.heap.size + 1) (.loop { lp with state := .busy }) = Wp at hP ⊢
          obtain ⟨t0, t1, t2, t3⟩ := hP.out.1
          gi_wp2
          refine ⟨trivial, ?_⟩
          refine (CallsIn.inRound _ (callsIn_wide.2 (fmay_v fx fy fz n0 Wp))).mono ?_
          rintro e W3 ⟨rfl, hb3⟩
          have hP3 : Hid (Boxed W3 (w.heap.size + 1) 4 (.bool false) ∧ W3.heap[W.heap.size + 1]? = some (.loop { lp with state := .busy }) ∧ Below (w.heap.size + 1) Wc W3 ∧ (∀ k, k ≠ W.heap.size + 1 → k < Wc.heap.size → W3.heap[k]? = Wc.heap[k]?) ∧ Wc.heap.size < W3.heap.size) := by
            obtain ⟨-, a1, a2, a3, a4, a5⟩ := hP.out
            exact ⟨(hb3.block _ (by omega)).trans a1, (hb3.block _ (by omega)).trans a2, a3.trans (hb3.mono (by omega)), fun k hk hl => (hb3.block k (by omega)).trans (a4 k hk hl), by have := hb3.size; omega⟩
          clear hb3 hP t0 t1 t2 t3
          rw [show (decide (fy ≤ n0) && decide (n0 ≤ fz)) = okN (fx, fy, fz) n0 from rfl]
          have hTb := hP3.out.1
          have hTc1 := hTb.cell
          have hTf1 := hTb.frozen
          cases hok : okN (fx, fy, fz) n0 with
          | true =>
            gi_wp2
            obtain ⟨b1, b2, b3, b4, b5⟩ := hP3.out
            refine ⟨_, _, run_endRound none b2, .inl ⟨rfl, hok, ?_⟩⟩
            have hlp' : ({ ({ lp with state := .busy } : Loop) with state := if (none : Option Code).isNone = true then .ready else .done, pending := none } : Loop) = lp := lp7_back Q1.out Q2.out
            rw [hlp']
            refine ⟨b3.os, b3.tape, b3.output, by rw [World.putObj_size]; omega, fun k hk => ?_⟩
            by_cases hkr : k = W.heap.size + 1
            · rw [hkr, World.putObj_heap_same (by omega)]; exact HLP.out.symm
            · rw [World.putObj_heap_other hkr]; exact b4 k hkr hk
          | false =>
            gi_wp2
            obtain ⟨b1, b2, b3, b4, b5⟩ := hP3.out
            have b2' : (W3.setCell ⟨w.heap.size + 1, 0, none⟩ (.bool false)).heap[W.heap.size + 1]? = some (.loop { lp with state := .busy }) := (Below.heap_setCell W3 ⟨w.heap.size + 1, 0, none⟩ (.bool false) (W.heap.size + 1) (by show W.heap.size + 1 ≠ w.heap.size + 1; omega)).trans b2
            refine ⟨_, _, run_endRound (some .ret) b2', .inr ⟨rfl, hok, boxed_put (b1.set _) hrT _, ?_, ⟨_, World.putObj_heap_same (by simp; omega), rfl, rfl⟩, fun k hk hkr hl => ?_⟩⟩
            · have h1 := b3.setCell (p := ⟨w.heap.size + 1, 0, none⟩) (Nat.le_refl _) (.bool false)
              exact ⟨h1.os, h1.tape, h1.output, by rw [World.putObj_size]; exact h1.size, fun k hk => (World.putObj_heap_other (by omega)).trans (h1.block k hk)⟩
            · rw [World.putObj_heap_other hkr]
              exact (Below.heap_setCell W3 ⟨w.heap.size + 1, 0, none⟩ (.bool false) k hk).trans (b4 k hkr hl)
        have hrn : ((W.alloc (.deferred (some []))).alloc (.loop lp)).heap[W.heap.size + 1]? = some (.loop lp) := by have := World.alloc_heap_new (W.alloc (.deferred (some []))) (.loop lp); rwa [size1] at this
        have hdn : ((W.alloc (.deferred (some []))).alloc (.loop lp)).heap[W.heap.size]? = some (.deferred (some [])) := (Below.heap_alloc _ _ _ (by simp)).trans (World.alloc_heap_new W _)
        have hbl : Below W.heap.size W ((W.alloc (.deferred (some []))).alloc (.loop lp)) := new1.alloc (by simp) _
        have hsl : ((W.alloc (.deferred (some []))).alloc (.loop lp)).heap.size = W.heap.size + 1 + 1 := by simp
        generalize (W.alloc (.deferred (some []))).alloc (.loop lp) = Wl at hrn hdn hbl hsl ⊢
        have hbb : Below Wl.heap.size Wl (Wl.alloc (.cells #[.int .i64 fx, .int .i64 fy, .int .i64 fz, .slice (some ⟨g0, 0, none⟩) 1 1] 80)) := new1
        have hwb : Wl.heap.size < (Wl.alloc (.cells #[.int .i64 fx, .int .i64 fy, .int .i64 fz, .slice (some ⟨g0, 0, none⟩) 1 1] 80)).heap.size := by simp
        have hbc : ((Wl.alloc (.cells #[.int .i64 fx, .int .i64 fy, .int .i64 fz, .slice (some ⟨g0, 0, none⟩) 1 1] 80)).cell? ⟨Wl.heap.size, 0, none⟩ = some (.int .i64 fx) ∧ (Wl.alloc (.cells #[.int .i64 fx, .int .i64 fy, .int .i64 fz, .slice (some ⟨g0, 0, none⟩) 1 1] 80)).cell? ⟨Wl.heap.size, 1, none⟩ = some (.int .i64 fy) ∧ (Wl.alloc (.cells #[.int .i64 fx, .int .i64 fy, .int .i64 fz, .slice (some ⟨g0, 0, none⟩) 1 1] 80)).cell? ⟨Wl.heap.size, 2, none⟩ = some (.int .i64 fz) ∧ (Wl.alloc (.cells #[.int .i64 fx, .int .i64 fy, .int .i64 fz, .slice (some ⟨g0, 0, none⟩) 1 1] 80)).cell? ⟨Wl.heap.size, 3, none⟩ = some (.slice (some ⟨g0, 0, none⟩) 1 1)) := by
          refine ⟨?_, ?_, ?_, ?_⟩ <;> simp [go_sem]
        have HRN : Hid ((Wl.alloc (.cells #[.int .i64 fx, .int .i64 fy, .int .i64 fz, .slice (some ⟨g0, 0, none⟩) 1 1] 80)).heap[W.heap.size + 1]? = some (.loop lp) ∧ Boxed (Wl.alloc (.cells #[.int .i64 fx, .int .i64 fy, .int .i64 fz, .slice (some ⟨g0, 0, none⟩) 1 1] 80)) (w.heap.size + 1) 4 (.bool false) ∧ (Wl.alloc (.cells #[.int .i64 fx, .int .i64 fy, .int .i64 fz, .slice (some ⟨g0, 0, none⟩) 1 1] 80)).heap[W.heap.size]? = some (.deferred (some []))) :=
          ⟨(hbb.block _ (by omega)).trans hrn, (hbb.block _ (by omega)).trans ((hbl.block _ (by omega)).trans HTW.out), (hbb.block _ (by omega)).trans hdn⟩
        have HWW : Hid (Below W.heap.size W (Wl.alloc (.cells #[.int .i64 fx, .int .i64 fy, .int .i64 fz, .slice (some ⟨g0, 0, none⟩) 1 1] 80))) := hbl.trans (hbb.mono (by omega))
        have hrb : W.heap.size + 1 < Wl.heap.size := by omega
        refine (allI_in 1 (W.heap.size + 1) fx fy fz g0 e0 (fun i W' => Below (Wl.alloc (.cells #[.int .i64 fx, .int .i64 fy, .int .i64 fz, .slice (some ⟨g0, 0, none⟩) 1 1] 80)).heap.size (Wl.alloc (.cells #[.int .i64 fx, .int .i64 fy, .int .i64 fz, .slice (some ⟨g0, 0, none⟩) 1 1] 80)) W' ∧ (i = 1 → okN (fx, fy, fz) e0 = true)) (fun W' => okN (fx, fy, fz) e0 = false ∧ ∃ We, Below (Wl.alloc (.cells #[.int .i64 fx, .int .i64 fy, .int .i64 fz, .slice (some ⟨g0, 0, none⟩) 1 1] 80)).heap.size (Wl.alloc (.cells #[.int .i64 fx, .int .i64 fy, .int .i64 fz, .slice (some ⟨g0, 0, none⟩) 1 1] 80)) We ∧ No7 (w.heap.size + 1) (W.heap.size + 1) We W') Wl
          (fun i W' h => ⟨⟨(h.1.cell hwb).trans hbc.1, (h.1.cell hwb).trans hbc.2.1, (h.1.cell hwb).trans hbc.2.2.1, (h.1.cell hwb).trans hbc.2.2.2⟩, (h.1.cell (by show g0 < _; omega)).trans ((HWW.out.cell (by show g0 < _; exact hg1)).trans hg2)⟩)
          (fun W' h => (hY W' e0 ((h.1.block _ (by omega)).trans HRN.out.1) ((h.1.block _ (by omega)).trans HRN.out.2.1)) |> fun ⟨a1, a2, a3, a4, a5, a6⟩ => ⟨a1, a2, a3, a4, a5, a6.mono fun e W'' hh => hh.elim (fun q => .inl ⟨q.1, h.1.trans (q.2.2.mono h.1.size), fun _ => q.2.1⟩) (fun q => .inr ⟨q.1, q.2.1, W', h.1, q.2.2⟩)⟩)
          ⟨Below.refl _ _, fun h => by cases h⟩).mono ?_
        rintro e W4 ⟨⟨v4, rfl⟩, hI4 | hJ4⟩
        · obtain ⟨hb4, hk4⟩ := hI4
          have HOK : Hid (okF ((fx, fy, fz), [e0]) = true) := by unfold Hid okF; simpa using hk4 rfl
          have hl4 : W4.heap[W.heap.size + 1]? = some (.loop lp) := (hb4.block _ (by omega)).trans HRN.out.1
          have hend := run_endLoop (P := Tryd.prog) hl4 (by rw [q1]; simp)
          rw [q2] at hend
          refine ⟨none, _, hend, ?_⟩
          have H7 : Hid (At7 (w.heap.size + 1) w2 m (j + 1) (W.heap.size :: Ds) (W4.putObj (W.heap.size + 1) (.loop { lp with state := .exhausted, pending := none }))) := by
            obtain ⟨a1, a2, a3, a4⟩ := HA.out
            have hW4 : Below W.heap.size W W4 := HWW.out.trans (hb4.mono (by omega))
            have hW5 : ∀ k, k < W.heap.size + 1 → (W4.putObj (W.heap.size + 1) (.loop { lp with state := .exhausted, pending := none })).heap[k]? = W4.heap[k]? := fun k hk => World.putObj_heap_other (by omega)
            refine ⟨?_, (take_all HF.out a2).trans HOK.out, fun D hD => ?_, List.nodup_cons.2 ⟨fun h => ?_, a4⟩⟩
            · have := a1.trans (hW4.mono hsz2)
              exact ⟨this.os, this.tape, this.output, by rw [World.putObj_size]; exact this.size, fun k hk => (hW5 k (by omega)).trans (this.block k hk)⟩
            · rcases List.mem_cons.1 hD with rfl | hD
              · exact ⟨(hW5 _ (by omega)).trans ((hb4.block _ (by omega)).trans HRN.out.2.2), hsz2⟩
              · have hlt := (Array.getElem?_eq_some_iff.1 (a3 D hD).1).1
                exact ⟨(hW5 D (by omega)).trans ((hW4.block D hlt).trans (a3 D hD).1), (a3 D hD).2⟩
            · have hlt := (Array.getElem?_eq_some_iff.1 (a3 _ h).1).1
              omega
          generalize W4.putObj (W.heap.size + 1) (.loop { lp with state := .exhausted, pending := none }) = W5 at H7 ⊢
          clear hend hl4 hb4 hk4 HRN HWW hbb hbc hwb hY
          dsimp only
          gi_wp2
          exact ⟨⟨j + 1, _, _, _, _, _, _, _, _, _, _, _, _, _, _, _, _, (W.heap.size :: Ds), by omega, rfl, H7.out⟩, by simp [intOf]; omega⟩
        · obtain ⟨hno, We, hbe, hn1, hn2, ⟨lq, hn3, hn4, hn5⟩, hn6⟩ := hJ4
          have HOK : Hid (mM m = false) := PT_no HF.out (by unfold okF; simpa using hno)
          have hend := run_endLoop (P := Tryd.prog) hn3 (by rw [hn4]; simp)
          rw [hn5] at hend
          refine ⟨some .ret, _, hend, ?_⟩
          have H7 : Hid ((Boxed (W4.putObj (W.heap.size + 1) (.loop { lq with state := .exhausted, pending := some .ret })) (w.heap.size + 1) 4 (.bool false) ∧ Below w.heap.size w (W4.putObj (W.heap.size + 1) (.loop { lq with state := .exhausted, pending := some .ret }))) ∧ (∀ D ∈ W.heap.size :: Ds, (W4.putObj (W.heap.size + 1) (.loop { lq with state := .exhausted, pending := some .ret })).heap[D]? = some (.deferred (some [])) ∧ w2.heap.size ≤ D) ∧ (W.heap.size :: Ds).Nodup) := by
            obtain ⟨a1, a2, a3, a4⟩ := HA.out
            have hW5 : ∀ k, k < W.heap.size + 1 → (W4.putObj (W.heap.size + 1) (.loop { lq with state := .exhausted, pending := some .ret })).heap[k]? = W4.heap[k]? := fun k hk => World.putObj_heap_other (by omega)
            have hse := hbe.size
            refine ⟨⟨boxed_put hn1 (by omega) _, ?_⟩, fun D hD => ?_, List.nodup_cons.2 ⟨fun h => ?_, a4⟩⟩
            · have h1 : Below w.heap.size w We := (HB2.out.trans (a1.mono (by omega))).trans ((HWW.out.mono (by omega)).trans (hbe.mono (by omega)))
              have h2 := h1.trans (hn2.mono (by omega))
              exact ⟨h2.os, h2.tape, h2.output, by rw [World.putObj_size]; exact h2.size, fun k hk => (hW5 k (by omega)).trans (h2.block k hk)⟩
            · rcases List.mem_cons.1 hD with rfl | hD
              · exact ⟨(hW5 _ (by omega)).trans ((hn6 _ (by omega) (by omega) (by omega)).trans ((hbe.block _ (by omega)).trans HRN.out.2.2)), hsz2⟩
              · have hlt := (Array.getElem?_eq_some_iff.1 (a3 D hD).1).1
                have h3 := (a3 D hD).2
                exact ⟨(hW5 D (by omega)).trans ((hn6 D (by omega) (by omega) (by omega)).trans ((hbe.block D (by omega)).trans ((HWW.out.block D hlt).trans (a3 D hD).1))), h3⟩
            · have hlt := (Array.getElem?_eq_some_iff.1 (a3 _ h).1).1
              omega
          generalize W4.putObj (W.heap.size + 1) (.loop { lq with state := .exhausted, pending := some .ret }) = W5 at H7 ⊢
          clear hend hn1 hn2 hn3 hn4 hn5 hn6 hbe HRN HWW hbb hbc hwb hY
          dsimp only
          gi_wp2
          refine (show LeavesInM Fence.wide 3 Tryd.prog _ _ _ (mks (W.heap.size :: Ds)) .returning W5 from ?_)
          refine may_end (w.heap.size + 1) w false (W.heap.size :: Ds) _ W5 (by rfl) (by omega) H7.out.1.1 H7.out.1.2 (fun D hD => ⟨(H7.out.2.1 D hD).1, by have := (H7.out.2.1 D hD).2; omega⟩) H7.out.2.2 ?_
          rw [← HV.out, HOK.out]
      · dsimp only at hrd hne
        gi_wp2
        refine range_m 51 #[.agg #[.int .i64 fx, .int .i64 fy, .int .i64 fz, .slice A0 ns.length c0]] rfl (enters_of Tryd.func51 (by kernel_rfl) rfl) (fun lp q1 q2 q3 q4 q5 q6 => ?_)
        have hY : ∀ Wc n0, Wc.heap[W.heap.size + 1]? = some (.loop lp) → Boxed Wc (w.heap.size + 1) 4 (.bool false) → YieldAt Fence.wide 1 Tryd.prog (W.heap.size + 1) #[fv fx fy fz, .int .i64 n0] Wc fun e W' =>
            (e = .returned (.bool true) ∧ okN (fx, fy, fz) n0 = true ∧ Below Wc.heap.size Wc W') ∨ (e = .returned (.bool false) ∧ okN (fx, fy, fz) n0 = false ∧ No7 (w.heap.size + 1) (W.heap.size + 1) Wc W') := by
          intro Wc n0 hlp hTc
          have hy := run_yield (P := Tryd.prog) (args := #[fv fx fy fz, .int .i64 n0]) hlp (by rw [q4]; rfl)
          rw [q3, q4, q5, q6] at hy
          refine ⟨_, _, _, _, hy, roundIn_of_wpIn trivial ?_⟩
          have hlp1 : (Wc.alloc (.cells #[.int .i64 fx, .int .i64 fy, .int .i64 fz] 59)).heap[W.heap.size + 1]? = some (.loop lp) := (Below.heap_alloc _ _ _ (Array.getElem?_eq_some_iff.1 hlp).1).trans hlp
          have hrun := run_beginRound (P := Tryd.prog) hlp1 q1
          have HLP := Lib.hid hlp
          have HTC := Lib.hid hTc
          have Q1 := Lib.hid q1
          have Q2 := Lib.hid q2
          clear hy q1 q2 q3 q4 q5 q6 hlp1 hlp hTc hfc
          gi_wp2
          refine ⟨_, hrun, ?_⟩
          clear hrun
          have hrT : w.heap.size + 1 ≠ W.heap.size + 1 := by omega
          have hrl := (Array.getElem?_eq_some_iff.1 HLP.out).1
          have hP : Hid (T3 ((Wc.alloc (.cells #[.int .i64 fx, .int .i64 fy, .int .i64 fz] 59)).putObj (W.heap.size + 1) (.loop { lp with state := .busy })) Wc.heap.size fx fy fz ∧ Boxed ((Wc.alloc (.cells #[.int .i64 fx, .int .i64 fy, .int .i64 fz] 59)).putObj (W.heap.size + 1) (.loop { lp with state := .busy })) (w.heap.size + 1) 4 (.bool false) ∧
              ((Wc.alloc (.cells #[.int .i64 fx, .int .i64 fy, .int .i64 fz] 59)).putObj (W.heap.size + 1) (.loop { lp with state := .busy })).heap[W.heap.size + 1]? = some (.loop { lp with state := .busy }) ∧ (Below (w.heap.size + 1) Wc ((Wc.alloc (.cells #[.int .i64 fx, .int .i64 fy, .int .i64 fz] 59)).putObj (W.heap.size + 1) (.loop { lp with state := .busy }))) ∧
              (∀ k, k ≠ W.heap.size + 1 → k < Wc.heap.size → ((Wc.alloc (.cells #[.int .i64 fx, .int .i64 fy, .int .i64 fz] 59)).putObj (W.heap.size + 1) (.loop { lp with state := .busy })).heap[k]? = Wc.heap[k]?) ∧ Wc.heap.size < ((Wc.alloc (.cells #[.int .i64 fx, .int .i64 fy, .int .i64 fz] 59)).putObj (W.heap.size + 1) (.loop { lp with state := .busy })).heap.size) := by
            have hbb : Below Wc.heap.size Wc (Wc.alloc (.cells #[.int .i64 fx, .int .i64 fy, .int .i64 fz] 59)) := new1
            refine ⟨(T3.new Wc fx fy fz _).putObj (by omega) _, boxed_put (HTC.out.alloc _) hrT _, World.putObj_heap_same (by simp; omega), ?_, fun k hk hl => (World.putObj_heap_other hk).trans (hbb.block k hl), by rw [World.putObj_size]; simp⟩
            have h1 := hbb.mono (show w.heap.size + 1 ≤ Wc.heap.size by omega)
            exact ⟨h1.os, h1.tape, h1.output, by rw [World.putObj_size]; exact h1.size, fun k hk => (World.putObj_heap_other (by omega)).trans (h1.block k hk)⟩
          generalize (Wc.alloc (.cells #[.int .i64 fx, .int .i64 fy, .int .i64 fz] 59)).putObj (W.heap.size + 1) (.loop { lp with state := .busy }) = Wp at hP ⊢
          obtain ⟨t0, t1, t2, t3⟩ := hP.out.1
          gi_wp2
          refine ⟨trivial, ?_⟩
          refine (CallsIn.inRound _ (callsIn_wide.2 (fmay_v fx fy fz n0 Wp))).mono ?_
          rintro e W3 ⟨rfl, hb3⟩
          have hP3 : Hid (Boxed W3 (w.heap.size + 1) 4 (.bool false) ∧ W3.heap[W.heap.size + 1]? = some (.loop { lp with state := .busy }) ∧ Below (w.heap.size + 1) Wc W3 ∧ (∀ k, k ≠ W.heap.size + 1 → k < Wc.heap.size → W3.heap[k]? = Wc.heap[k]?) ∧ Wc.heap.size < W3.heap.size) := by
            obtain ⟨-, a1, a2, a3, a4, a5⟩ := hP.out
            exact ⟨(hb3.block _ (by omega)).trans a1, (hb3.block _ (by omega)).trans a2, a3.trans (hb3.mono (by omega)), fun k hk hl => (hb3.block k (by omega)).trans (a4 k hk hl), by have := hb3.size; omega⟩
          clear hb3 hP t0 t1 t2 t3
          rw [show (decide (fy ≤ n0) && decide (n0 ≤ fz)) = okN (fx, fy, fz) n0 from rfl]
          have hTb := hP3.out.1
          have hTc1 := hTb.cell
          have hTf1 := hTb.frozen
          cases hok : okN (fx, fy, fz) n0 with
          | true =>
            gi_wp2
            obtain ⟨b1, b2, b3, b4, b5⟩ := hP3.out
            refine ⟨_, _, run_endRound none b2, .inl ⟨rfl, hok, ?_⟩⟩
            have hlp' : ({ ({ lp with state := .busy } : Loop) with state := if (none : Option Code).isNone = true then .ready else .done, pending := none } : Loop) = lp := lp7_back Q1.out Q2.out
            rw [hlp']
            refine ⟨b3.os, b3.tape, b3.output, by rw [World.putObj_size]; omega, fun k hk => ?_⟩
            by_cases hkr : k = W.heap.size + 1
            · rw [hkr, World.putObj_heap_same (by omega)]; exact HLP.out.symm
            · rw [World.putObj_heap_other hkr]; exact b4 k hkr hk
          | false =>
            gi_wp2
            obtain ⟨b1, b2, b3, b4, b5⟩ := hP3.out
            have b2' : (W3.setCell ⟨w.heap.size + 1, 0, none⟩ (.bool false)).heap[W.heap.size + 1]? = some (.loop { lp with state := .busy }) := (Below.heap_setCell W3 ⟨w.heap.size + 1, 0, none⟩ (.bool false) (W.heap.size + 1) (by show W.heap.size + 1 ≠ w.heap.size + 1; omega)).trans b2
            refine ⟨_, _, run_endRound (some .ret) b2', .inr ⟨rfl, hok, boxed_put (b1.set _) hrT _, ?_, ⟨_, World.putObj_heap_same (by simp; omega), rfl, rfl⟩, fun k hk hkr hl => ?_⟩⟩
            · have h1 := b3.setCell (p := ⟨w.heap.size + 1, 0, none⟩) (Nat.le_refl _) (.bool false)
              exact ⟨h1.os, h1.tape, h1.output, by rw [World.putObj_size]; exact h1.size, fun k hk => (World.putObj_heap_other (by omega)).trans (h1.block k hk)⟩
            · rw [World.putObj_heap_other hkr]
              exact (Below.heap_setCell W3 ⟨w.heap.size + 1, 0, none⟩ (.bool false) k hk).trans (b4 k hkr hl)
        have hrn : ((W.alloc (.deferred (some []))).alloc (.loop lp)).heap[W.heap.size + 1]? = some (.loop lp) := by have := World.alloc_heap_new (W.alloc (.deferred (some []))) (.loop lp); rwa [size1] at this
        have hdn : ((W.alloc (.deferred (some []))).alloc (.loop lp)).heap[W.heap.size]? = some (.deferred (some [])) := (Below.heap_alloc _ _ _ (by simp)).trans (World.alloc_heap_new W _)
        have hbl : Below W.heap.size W ((W.alloc (.deferred (some []))).alloc (.loop lp)) := new1.alloc (by simp) _
        have hsl : ((W.alloc (.deferred (some []))).alloc (.loop lp)).heap.size = W.heap.size + 1 + 1 := by simp
        generalize (W.alloc (.deferred (some []))).alloc (.loop lp) = Wl at hrn hdn hbl hsl ⊢
        have hbb : Below Wl.heap.size Wl (Wl.alloc (.cells #[.int .i64 fx, .int .i64 fy, .int .i64 fz, .slice A0 ns.length c0] 83)) := new1
        have hwb : Wl.heap.size < (Wl.alloc (.cells #[.int .i64 fx, .int .i64 fy, .int .i64 fz, .slice A0 ns.length c0] 83)).heap.size := by simp
        have hbc : ((Wl.alloc (.cells #[.int .i64 fx, .int .i64 fy, .int .i64 fz, .slice A0 ns.length c0] 83)).cell? ⟨Wl.heap.size, 0, none⟩ = some (.int .i64 fx) ∧ (Wl.alloc (.cells #[.int .i64 fx, .int .i64 fy, .int .i64 fz, .slice A0 ns.length c0] 83)).cell? ⟨Wl.heap.size, 1, none⟩ = some (.int .i64 fy) ∧ (Wl.alloc (.cells #[.int .i64 fx, .int .i64 fy, .int .i64 fz, .slice A0 ns.length c0] 83)).cell? ⟨Wl.heap.size, 2, none⟩ = some (.int .i64 fz) ∧ (Wl.alloc (.cells #[.int .i64 fx, .int .i64 fy, .int .i64 fz, .slice A0 ns.length c0] 83)).cell? ⟨Wl.heap.size, 3, none⟩ = some (.slice A0 ns.length c0)) := by
          refine ⟨?_, ?_, ?_, ?_⟩ <;> simp [go_sem]
        have HRN : Hid ((Wl.alloc (.cells #[.int .i64 fx, .int .i64 fy, .int .i64 fz, .slice A0 ns.length c0] 83)).heap[W.heap.size + 1]? = some (.loop lp) ∧ Boxed (Wl.alloc (.cells #[.int .i64 fx, .int .i64 fy, .int .i64 fz, .slice A0 ns.length c0] 83)) (w.heap.size + 1) 4 (.bool false) ∧ (Wl.alloc (.cells #[.int .i64 fx, .int .i64 fy, .int .i64 fz, .slice A0 ns.length c0] 83)).heap[W.heap.size]? = some (.deferred (some []))) :=
          ⟨(hbb.block _ (by omega)).trans hrn, (hbb.block _ (by omega)).trans ((hbl.block _ (by omega)).trans HTW.out), (hbb.block _ (by omega)).trans hdn⟩
        have HWW : Hid (Below W.heap.size W (Wl.alloc (.cells #[.int .i64 fx, .int .i64 fy, .int .i64 fz, .slice A0 ns.length c0] 83))) := hbl.trans (hbb.mono (by omega))
        have hrb : W.heap.size + 1 < Wl.heap.size := by omega
        refine (allU_in 1 (W.heap.size + 1) fx fy fz A0 c0 ns hrd.len (fun i W' => Below (Wl.alloc (.cells #[.int .i64 fx, .int .i64 fy, .int .i64 fz, .slice A0 ns.length c0] 83)).heap.size (Wl.alloc (.cells #[.int .i64 fx, .int .i64 fy, .int .i64 fz, .slice A0 ns.length c0] 83)) W' ∧ (ns.take i).all (okN (fx, fy, fz)) = true) (fun W' => (∃ e0 ∈ ns, okN (fx, fy, fz) e0 = false) ∧ ∃ We, Below (Wl.alloc (.cells #[.int .i64 fx, .int .i64 fy, .int .i64 fz, .slice A0 ns.length c0] 83)).heap.size (Wl.alloc (.cells #[.int .i64 fx, .int .i64 fy, .int .i64 fz, .slice A0 ns.length c0] 83)) We ∧ No7 (w.heap.size + 1) (W.heap.size + 1) We W') Wl
          (fun i W' h => ⟨⟨(h.1.cell hwb).trans hbc.1, (h.1.cell hwb).trans hbc.2.1, (h.1.cell hwb).trans hbc.2.2.1, (h.1.cell hwb).trans hbc.2.2.2⟩, (hrd.keep HWW.out).keep h.1⟩)
          (fun i W' hi h => (hY W' ns[i] ((h.1.block _ (by omega)).trans HRN.out.1) ((h.1.block _ (by omega)).trans HRN.out.2.1)) |> fun ⟨a1, a2, a3, a4, a5, a6⟩ => ⟨a1, a2, a3, a4, a5, a6.mono fun e W'' hh => hh.elim (fun q => .inl ⟨q.1, h.1.trans (q.2.2.mono h.1.size), by rw [List.take_add_one, List.all_append, h.2, List.getElem?_eq_getElem hi]; simpa using q.2.1⟩) (fun q => .inr ⟨q.1, ⟨_, List.getElem_mem hi, q.2.1⟩, W', h.1, q.2.2⟩)⟩)
          ⟨Below.refl _ _, rfl⟩).mono ?_
        rintro e W4 ⟨⟨v4, rfl⟩, hI4 | hJ4⟩
        · obtain ⟨hb4, hk4⟩ := hI4
          have HOK : Hid (okF ((fx, fy, fz), ns) = true) := by unfold Hid okF; rw [List.take_length] at hk4; exact hk4
          have hl4 : W4.heap[W.heap.size + 1]? = some (.loop lp) := (hb4.block _ (by omega)).trans HRN.out.1
          have hend := run_endLoop (P := Tryd.prog) hl4 (by rw [q1]; simp)
          rw [q2] at hend
          refine ⟨none, _, hend, ?_⟩
          have H7 : Hid (At7 (w.heap.size + 1) w2 m (j + 1) (W.heap.size :: Ds) (W4.putObj (W.heap.size + 1) (.loop { lp with state := .exhausted, pending := none }))) := by
            obtain ⟨a1, a2, a3, a4⟩ := HA.out
            have hW4 : Below W.heap.size W W4 := HWW.out.trans (hb4.mono (by omega))
            have hW5 : ∀ k, k < W.heap.size + 1 → (W4.putObj (W.heap.size + 1) (.loop { lp with state := .exhausted, pending := none })).heap[k]? = W4.heap[k]? := fun k hk => World.putObj_heap_other (by omega)
            refine ⟨?_, (take_all HF.out a2).trans HOK.out, fun D hD => ?_, List.nodup_cons.2 ⟨fun h => ?_, a4⟩⟩
            · have := a1.trans (hW4.mono hsz2)
              exact ⟨this.os, this.tape, this.output, by rw [World.putObj_size]; exact this.size, fun k hk => (hW5 k (by omega)).trans (this.block k hk)⟩
            · rcases List.mem_cons.1 hD with rfl | hD
              · exact ⟨(hW5 _ (by omega)).trans ((hb4.block _ (by omega)).trans HRN.out.2.2), hsz2⟩
              · have hlt := (Array.getElem?_eq_some_iff.1 (a3 D hD).1).1
                exact ⟨(hW5 D (by omega)).trans ((hW4.block D hlt).trans (a3 D hD).1), (a3 D hD).2⟩
            · have hlt := (Array.getElem?_eq_some_iff.1 (a3 _ h).1).1
              omega
          generalize W4.putObj (W.heap.size + 1) (.loop { lp with state := .exhausted, pending := none }) = W5 at H7 ⊢
          clear hend hl4 hb4 hk4 HRN HWW hbb hbc hwb hY
          dsimp only
          gi_wp2
          exact ⟨⟨j + 1, _, _, _, _, _, _, _, _, _, _, _, _, _, _, _, _, (W.heap.size :: Ds), by omega, rfl, H7.out⟩, by simp [intOf]; omega⟩
        · obtain ⟨hno, We, hbe, hn1, hn2, ⟨lq, hn3, hn4, hn5⟩, hn6⟩ := hJ4
          have HOK : Hid (mM m = false) := PT_no HF.out (by unfold okF; obtain ⟨e0, h1, h2⟩ := hno; rw [List.all_eq_false]; exact ⟨e0, h1, by rw [h2]; decide⟩)
          have hend := run_endLoop (P := Tryd.prog) hn3 (by rw [hn4]; simp)
          rw [hn5] at hend
          refine ⟨some .ret, _, hend, ?_⟩
          have H7 : Hid ((Boxed (W4.putObj (W.heap.size + 1) (.loop { lq with state := .exhausted, pending := some .ret })) (w.heap.size + 1) 4 (.bool false) ∧ Below w.heap.size w (W4.putObj (W.heap.size + 1) (.loop { lq with state := .exhausted, pending := some .ret }))) ∧ (∀ D ∈ W.heap.size :: Ds, (W4.putObj (W.heap.size + 1) (.loop { lq with state := .exhausted, pending := some .ret })).heap[D]? = some (.deferred (some [])) ∧ w2.heap.size ≤ D) ∧ (W.heap.size :: Ds).Nodup) := by
            obtain ⟨a1, a2, a3, a4⟩ := HA.out
            have hW5 : ∀ k, k < W.heap.size + 1 → (W4.putObj (W.heap.size + 1) (.loop { lq with state := .exhausted, pending := some .ret })).heap[k]? = W4.heap[k]? := fun k hk => World.putObj_heap_other (by omega)
            have hse := hbe.size
            refine ⟨⟨boxed_put hn1 (by omega) _, ?_⟩, fun D hD => ?_, List.nodup_cons.2 ⟨fun h => ?_, a4⟩⟩
            · have h1 : Below w.heap.size w We := (HB2.out.trans (a1.mono (by omega))).trans ((HWW.out.mono (by omega)).trans (hbe.mono (by omega)))
              have h2 := h1.trans (hn2.mono (by omega))
              exact ⟨h2.os, h2.tape, h2.output, by rw [World.putObj_size]; exact h2.size, fun k hk => (hW5 k (by omega)).trans (h2.block k hk)⟩
            · rcases List.mem_cons.1 hD with rfl | hD
              · exact ⟨(hW5 _ (by omega)).trans ((hn6 _ (by omega) (by omega) (by omega)).trans ((hbe.block _ (by omega)).trans HRN.out.2.2)), hsz2⟩
              · have hlt := (Array.getElem?_eq_some_iff.1 (a3 D hD).1).1
                have h3 := (a3 D hD).2
                exact ⟨(hW5 D (by omega)).trans ((hn6 D (by omega) (by omega) (by omega)).trans ((hbe.block D (by omega)).trans ((HWW.out.block D hlt).trans (a3 D hD).1))), h3⟩
            · have hlt := (Array.getElem?_eq_some_iff.1 (a3 _ h).1).1
              omega
          generalize W4.putObj (W.heap.size + 1) (.loop { lq with state := .exhausted, pending := some .ret }) = W5 at H7 ⊢
          clear hend hn1 hn2 hn3 hn4 hn5 hn6 hbe HRN HWW hbb hbc hwb hY
          dsimp only
          gi_wp2
          refine (show LeavesInM Fence.wide 3 Tryd.prog _ _ _ (mks (W.heap.size :: Ds)) .returning W5 from ?_)
          refine may_end (w.heap.size + 1) w false (W.heap.size :: Ds) _ W5 (by rfl) (by omega) H7.out.1.1 H7.out.1.2 (fun D hD => ⟨(H7.out.2.1 D hD).1, by have := (H7.out.2.1 D hD).2; omega⟩) H7.out.2.2 ?_
          rw [← HV.out, HOK.out]
    · obtain rfl : j = 9 := by omega
      have hTW : Boxed W (w.heap.size + 1) 4 (.bool false) := (HA.out.1.block _ (by omega)).trans HT2.out
      have hTc := hTW.cell
      have hTf := hTW.frozen
      have HTW := Lib.hid hTW
      clear hTW
      have hsz2 := HA.out.1.size
      gi_wp2
      refine may_end (w.heap.size + 1) w true Ds _ _ (by rfl) (by omega) (HTW.out.set _) ((HB2.out.trans (HA.out.1.mono (by omega))).setCell (p := ⟨w.heap.size + 1, 0, none⟩) (by show w.heap.size ≤ w.heap.size + 1; omega) _) (fun D hD => ⟨(Below.heap_setCell W ⟨w.heap.size + 1, 0, none⟩ (.bool true) D (by have := (HA.out.2.2.1 D hD).2; show D ≠ w.heap.size + 1; omega)).trans (HA.out.2.2.1 D hD).1, by have := (HA.out.2.2.1 D hD).2; omega⟩) HA.out.2.2.2 ?_
      rw [← HV.out, mM_PT]
      have := HA.out.2.1
      rw [List.take_of_length_le (by rw [PT_len]; omega)] at this
      rw [this]
end Go.Proofs.YtjdalgejejllgaaDoor
