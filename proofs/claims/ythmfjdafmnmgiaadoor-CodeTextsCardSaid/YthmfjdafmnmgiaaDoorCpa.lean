/-
  Layer 5, package code: what Parse answers, for every text.
-/
import Derived.Test.YthmfjdafmnmgiaaDoorCli
import Derived.RangeFuncRecord
namespace Go.Proofs.YthmfjdafmnmgiaaDoor
open Go.RowKit
set_option maxRecDepth 100000
set_option linter.unusedSimpArgs false
set_option linter.unusedVariables false
attribute [local go_sem] Oper.semAt_some

theorem lines_0 (t : ByteArray) (w : World) : Calls Tryd.prog 34 #[.string t] w fun e w' => e = .returned (.func (.func 45) #[] #[.pointer (some ⟨w.heap.size, 0, none⟩)]) ∧ w' = w.alloc (.cells #[.string t] 9) := by
  have hmf : ∀ (fn : Fn) (first cap : Array Value) (w : World), (Instr.makeFunc fn first cap).run Tryd.prog w = .ok (.func fn first cap) w := fun _ _ _ _ => rfl
  go_enter Tryd.func34, Tryd.ntmps34
  go_wp2_with fail
  go_ret
  exact ⟨rfl, rfl⟩
/-- A range over a function, outermost: the record as a letter with its fields told. -/
theorem range_by {n : Nat} {P : Program} {g : Operand} {ps : Array Tmp} {assign body : Code} {Q : Exit → Act → World → Prop} {a : Act} {w : World} (gf : Nat) (lb : Array Value)
    (hg : a.eval g = .func (.func gf) #[] lb) (eg : ∀ args w, (callFunc gf args).run P w = .ok (.enter gf args) w)
    (h : ∀ lp : Loop, lp.state = .ready → lp.pending = none → lp.tmps = a.tmps → lp.params = ps → lp.assign = assign → lp.body = body →
      CallsIn Fence.wide n P gf (#[.func (.yield (w.heap.size + 1)) #[] #[]] ++ lb) ((w.alloc (.deferred (some []))).alloc (.loop lp)) (rangePost Fence.wide (n + 1) P (w.heap.size + 1) Q { a with defers := { target := .collected w.heap.size, args := #[] } :: a.defers })) :
    (Code.rangeFunc g ps assign body).wpIn Fence.wide (n + 1) P Q a w := by
  refine wpIn_rangeFunc fun fn hfn => ?_
  obtain ⟨lp, hlp⟩ : ∃ lp : Loop, lp = { state := .ready, pending := none, fn, tmps := a.tmps, params := ps, assign, body, defers := w.heap.size } := ⟨_, rfl⟩
  refine ⟨w.heap.size + 1, [{ target := .collected w.heap.size, args := #[] }], (w.alloc (.deferred (some []))).alloc (.loop lp), { target := .fn (.func gf) lb, args := #[.func (.yield (w.heap.size + 1)) #[] #[]] }, (w.alloc (.deferred (some []))).alloc (.loop lp), gf,
    #[.func (.yield (w.heap.size + 1)) #[] #[]] ++ lb, (w.alloc (.deferred (some []))).alloc (.loop lp), ?_, ?_, ?_, ?_, fun _ => (by omega), ?_⟩
  · rw [hlp]; exact run_enterLoop_outer fn _ _ _ _
  · simp only [resolve, hg]
    simp [go_sem]
  · intro f' hf'; exact trivial
  · simp [invoke, go_sem, eg]
  · exact h lp (by rw [hlp]) (by rw [hlp]) (by rw [hlp]) (by rw [hlp]) (by rw [hlp]) (by rw [hlp])
theorem own_put {W : World} {B e size n : Nat} {v : Value} {xs : List Value} (h : W.ownsRow B e size v n xs) {r : Nat} (hr : r < B) (o : Obj) : (W.putObj r o).ownsRow B e size v n xs := by
  refine h.kept (grownBy_putObj' W r o) ?_
  cases hv : v.ownBlock with
  | none => exact .inl rfl
  | some g => exact .inr fun e => by injection e with e; have := (h.lt g hv).1; omega
theorem psL_at10 {V R : List Int} {K : List Ins} (hV : ∀ c ∈ V, c ≠ 10) : psL ((V ++ [10]) ++ R) [] K = if (lnP V).2 = true ∧ K.length < 200 then psL R [] (K ++ [(lnP V).1]) else (40, []) := by
  rw [List.append_assoc, psL_word hV, List.nil_append]
  show psL (10 :: R) V K = _
  rw [psL, if_neg (by decide)]
theorem plI_ok {T : List Int} : InOk (plI T) := by
  have h1 := opP_bd (T.take (spK T))
  exact ⟨⟨h1.1, show (opP (T.take (spK T))).1 < 256 by omega⟩, atV_bd _, show (-9223372036854775808 : Int) ≤ 0 ∧ (0 : Int) ≤ 9223372036854775807 from by decide⟩
theorem line_data (S T R : List Int) (K : List Ins) (hb : Byt T) (hl : T.length ≤ 1000000) (hL : Lk T R) (hS : psC S = psL (T ++ R) [] K) : ∃ (x : Ins) (v : Bool), InOk x ∧ psC S = (if v = true ∧ K.length < 200 then psL R [] (K ++ [x]) else (40, [])) ∧
    ∀ (u : ByteArray) (hu : strOfNums T = u) (w : World), fAll.p w → Calls Tryd.prog 35 #[.string u] w fun e w' => e = .returned (.tuple #[plR x v, .bool v]) ∧ Below w.heap.size w w' := by
  rcases hL with ⟨V, hV, rfl⟩ | ⟨hT, hne, rfl⟩
  · have hbV : Byt V := fun x hx => hb x (List.mem_append_left _ hx)
    have hlV : V.length ≤ 1000000 := by simp at hl; omega
    obtain ⟨h1, h2⟩ := plV_line V
    refine ⟨plI V, plV (V ++ [10]) V, plI_ok, ?_, fun u hu w hw => cpline_v (V ++ [10]) V hb hbV hlV u (strOfNums V) hu rfl (fun w => trim_t V u _ hu rfl hlV w) _ _ rfl rfl w hw⟩
    rw [hS, psL_at10 hV, ← h1]
    by_cases hv : plV (V ++ [10]) V = true
    · rw [h2 hv]
    · rw [if_neg (fun h => hv h.1), if_neg (fun h => hv h.1)]
  · refine ⟨plI T, false, plI_ok, ?_, fun u hu w hw => cpline_v T T hb hb hl u u hu hu (fun w => trim_f T hb hT u hu hl w) _ _ (plV_end hT) rfl w hw⟩
    have h0 := psL_word (T := T) (cur := []) (K := K) (rest := []) hT
    rw [hS, h0, psL_end, if_neg (fun h => hne (by simpa using h.1)), if_neg (fun h => (by cases h.1))]
theorem It.facts {k : Bk} {w W : World} {S T R : List Int} {lp : Loop} {K : List Ins} (h : It k w S lp T R K W) (ha : w.heap.size = k.a) (hw : fAll.p w) : fAll.p W := fAll.keep _ _ hw (by rw [ha]; exact h.2.2.2.2.1)
theorem own_cei {W : World} {N e n : Nat} {v : Value} {K : List Ins} {x : Ins} (h : W.ownsRow N e 3 v n (cei K ++ cei [x])) : W.ownsRow N e 3 v n (cei (K ++ [x])) := by rw [cei_append]; exact h
theorem ret_round {k : Bk} (hk : k.ok) {w W : World} {S : List Int} {l : Value} {s : ByteArray} {lp : Loop} {a : Act} {A : Ending → World → Prop} (HP : Ps k W (.slice none 0 0) 40 l s lp) (hB : Below k.a w W) (hn : k.n ≤ W.heap.size) (hS : psC S = (40, [])) :
    roundPost Tryd.prog k.r (fun e W' => A e W' ∨ (e = .returned (.bool false) ∧ Jf k w S W' .done (some .ret))) .ret a W :=
  ⟨_, _, run_endRound (some .ret) HP.2.2.2.2.2, .inr ⟨rfl, ⟨l, s, _, HP.putR hk _, rfl, rfl⟩, hS, below_put hB (by obtain ⟨_, _, _, _, _, _⟩ := hk; omega) _, by rw [World.putObj_size]; exact hn⟩⟩
theorem lp_back {lp : Loop} (h1 : lp.state = .ready) (h2 : lp.pending = none) : ({ lp with state := if (none : Option Code).isNone = true then .ready else .done, pending := none } : Loop) = lp := by
  cases lp
  simp at h1 h2 ⊢
  exact ⟨h1.symm, h2.symm⟩
theorem go_round' {k : Bk} (hk : k.ok) {w W : World} {S R : List Int} {K : List Ins} {lp : Loop} {a : Act} {B : Ending → World → Prop} {A : Option Addr} {n c : Nat} {t : ByteArray} (h1 : lp.state = .ready) (h2 : lp.pending = none)
    (HP : Ps k W (.slice none 0 0) 0 (.slice A n c) t { lp with state := .busy }) (ht : strOfNums R = t) (hO : W.ownsRow k.n 47 3 (.slice A n c) n (cei K)) (hb : Byt R) (hl : R.length ≤ 1000000) (hKn : K.length = n) (hn2 : n ≤ 200) (hK : ∀ x ∈ K, InOk x) (hB : Below k.a w W) (hn : k.n ≤ W.heap.size) (hS : psC S = psL R [] K) :
    roundPost Tryd.prog k.r (fun e W' => (e = .returned (.bool true) ∧ ∃ K', It k w S lp [] R K' W') ∨ B e W') .normal a W := by
  subst ht
  refine ⟨_, _, run_endRound none HP.2.2.2.2.2, .inl ⟨rfl, K, ⟨fun x hx => (by cases hx), hb, by simpa using hl⟩, ⟨A, n, c, ?_, own_put hO hk.2.2.2.2.2 _, hKn, hn2⟩, hK, hS, below_put hB (by obtain ⟨_, _, _, _, _, _⟩ := hk; omega) _, by rw [World.putObj_size]; exact hn⟩⟩
  have h' : Ps k (W.putObj k.r (.loop { lp with state := if (none : Option Code).isNone = true then .ready else .done, pending := none })) (.slice none 0 0) 0 (.slice A n c) (strOfNums R) lp := by
    rw [lp_back h1 h2]
    exact HP.putR hk lp
  exact h'
theorem grown5 {w3 w5 : World} {N e size n : Nat} {v : Value} {xs : List Value} {o o' : Obj} (hn : N ≤ w3.heap.size) (ho : ((w3.alloc o).alloc o').ownsRow N e size v n xs) (hg : ((w3.alloc o).alloc o').grownBy w5 v.ownBlock) : Below N w3 w5 :=
  (((Below.refl N w3).alloc hn o).alloc (by rw [size1]; omega) o').grown hg (by rw [size1, size1]; omega) (fun j hj => (ho.lt j hj).1)
/-- Parse's end: the results stand in the two cells. -/
theorem pa_end {k : Bk} (hk : k.ok) {w W : World} {S : List Int} {A : Option Addr} {n c : Nat} {K : List Ins} {y : Int} {l : Value} {s : ByteArray} {lp : Loop} (tmps : Array Value) (ht : tmps[2]? = some (.pointer (some ⟨k.a, 0, none⟩))) (ht3 : tmps[3]? = some (.pointer (some ⟨k.e, 0, none⟩)))
    (ka : w.heap.size = k.a) (HP : Ps k W (.slice A n c) y l s lp) (hO : W.ownsRow k.n 47 3 (.slice A n c) n (cei K)) (hK : ∀ x ∈ K, InOk x) (hS : psC S = (y, K)) (hB : Below k.a w W) :
    LeavesInM Fence.wide 3 Tryd.prog Tryd.f17 tmps (fun e w' => ∃ A c, e = .returned (.tuple #[.slice A (psC S).2.length c, .int .i64 (psC S).1]) ∧ Ri w' A c (psC S).2 ∧ Below w.heap.size w w') [] .returning (W.putObj k.d (.deferred none)) := by
  obtain ⟨hR, rfl⟩ := Ri.of_own (own_put hO (show k.d < k.n from by obtain ⟨_, _, _, _, _, _⟩ := hk; omega) (.deferred none)) hK
  obtain ⟨k1, k2, k3, k4, k5, k6⟩ := hk
  have hb : Below k.d W (W.putObj k.d (.deferred none)) := below_put (Below.refl _ _) (Nat.le_refl _) _
  have h1 : Boxed (W.putObj k.d (.deferred none)) k.a 22 (.slice A K.length c) := (hb.block _ (by omega)).trans HP.1
  have h2 : Boxed (W.putObj k.d (.deferred none)) k.e 27 (.int .i64 y) := (hb.block _ (by omega)).trans HP.2.1
  have c1 := h1.cell
  have c2 := h2.cell
  have t2 : tmps[2]?.getD undef = .pointer (some ⟨k.a, 0, none⟩) := by rw [ht]; rfl
  have t3 : tmps[3]?.getD undef = .pointer (some ⟨k.e, 0, none⟩) := by rw [ht3]; rfl
  have hB2 : Below w.heap.size w (W.putObj k.d (.deferred none)) := by rw [ka]; exact below_put hB (by omega) _
  simp [LeavesInM, LeavesIn, results, Tryd.results17, go_sem, c1, c2, t2, t3, hS]
  exact ⟨A, c, ⟨rfl, rfl⟩, hR, hB2⟩
set_option maxHeartbeats 8000000 in
theorem cparse_any (S : List Int) (t : ByteArray) (w : World) (hw : fAll.p w) (hb : Byt S) (ht : strOfNums S = t) (hlen : S.length ≤ 1000000) : Calls Tryd.prog 17 #[.string t] w fun e w' => ∃ A c, e = .returned (.tuple #[.slice A (psC S).2.length c, .int .i64 (psC S).1]) ∧ Ri w' A c (psC S).2 ∧ Below w.heap.size w w' := by
  have HW := Lib.hid hw
  have HBY := Lib.hid hb
  have HT := Lib.hid ht
  clear hw hb ht
  refine (callsIn_wide (n := 3)).1 ?_
  refine callsIn_of_wp_marks Tryd.func17 rfl trivial ?_ rfl
  simp only [Tryd.ntmps17, List.size_toArray, List.length_cons, List.length_nil, Nat.reduceAdd, Nat.reduceSub, Array.replicate_succ, Array.replicate_zero, List.push_toArray, List.append_toArray, List.nil_append, List.cons_append]
  gi_wp2_with (refine ⟨trivial, ?_⟩; gi_at_call 34; refine (callsIn_wide.2 (lines_0 t _)).mono ?_; rintro e w1 ⟨rfl, rfl⟩)
  have hz : (((((w.alloc (.cells #[.slice none 0 0] 22)).alloc (.cells #[.int .i64 0] 27)).alloc (.cells #[.slice none 0 0] 22)).alloc (.cells #[.string t] 9))).heap.size = w.heap.size + 1 + 1 + 1 + 1 := by simp
  have b0 := (((Boxed.new w 22 (.slice none 0 0)).alloc (.cells #[.int .i64 0] 27)).alloc (.cells #[.slice none 0 0] 22)).alloc (.cells #[.string t] 9)
  have b1 := ((Boxed.new (w.alloc (.cells #[.slice none 0 0] 22)) 27 (.int .i64 0)).alloc (.cells #[.slice none 0 0] 22)).alloc (.cells #[.string t] 9)
  have b2 := (Boxed.new ((w.alloc (.cells #[.slice none 0 0] 22)).alloc (.cells #[.int .i64 0] 27)) 22 (.slice none 0 0)).alloc (.cells #[.string t] 9)
  have b3 := Boxed.new (((w.alloc (.cells #[.slice none 0 0] 22)).alloc (.cells #[.int .i64 0] 27)).alloc (.cells #[.slice none 0 0] 22)) 9 (.string t)
  have hB := below_on (new3 (w := w) (a := .cells #[.slice none 0 0] 22) (b := .cells #[.int .i64 0] 27) (c := .cells #[.slice none 0 0] 22)) (new1 (a := .cells #[.string t] 9))
  rw [size1] at b1
  rw [size1, size1] at b2
  rw [size1, size1, size1] at b3
  generalize ((((w.alloc (.cells #[.slice none 0 0] 22)).alloc (.cells #[.int .i64 0] 27)).alloc (.cells #[.slice none 0 0] 22)).alloc (.cells #[.string t] 9)) = w1 at b0 b1 b2 b3 hB hz ⊢
  generalize he : w.heap.size + 1 = e at b0 b1 b2 b3 hz ⊢
  generalize hl : e + 1 = l at b0 b1 b2 b3 hz ⊢
  generalize hs : l + 1 = s at b0 b1 b2 b3 hz ⊢
  refine range_by 45 #[.pointer (some ⟨s, 0, none⟩)] rfl (enters_of Tryd.func45 (by kernel_rfl) rfl) (fun lp q1 q2 q3 q4 q5 q6 => ?_)
  obtain ⟨k, ka, ke, kl, ks, kd, kr, kn⟩ : ∃ k : Bk, w.heap.size = k.a ∧ e = k.e ∧ l = k.l ∧ s = k.s ∧ w1.heap.size = k.d ∧ w1.heap.size + 1 = k.r ∧ w1.heap.size + 2 = k.n := ⟨⟨_, _, _, _, _, _, _⟩, rfl, rfl, rfl, rfl, rfl, rfl, rfl⟩
  subst ke kl ks
  have hk : k.ok := by unfold Bk.ok; omega
  have hI0 : It k w S lp [] S [] ((w1.alloc (.deferred (some []))).alloc (.loop lp)) := by
    have hsz : ((w1.alloc (.deferred (some []))).alloc (.loop lp)).heap.size = k.n := by rw [size1, size1]; omega
    have hd := World.alloc_heap_new w1 (.deferred (some []))
    have hr := World.alloc_heap_new (w1.alloc (.deferred (some []))) (.loop lp)
    rw [size1, kr] at hr
    rw [kd] at hd
    refine ⟨⟨fun x hx => (by cases hx), HBY.out, by simpa using hlen⟩, ⟨none, 0, 0, ⟨?_, (b1.alloc _).alloc _, (b2.alloc _).alloc _, ?_, ?_, hr⟩, World.ownsRow_nil _ _ _ _, rfl, by omega⟩, fun x hx => (by cases hx), rfl, ?_, by omega⟩
    · rw [← ka]; exact (b0.alloc _).alloc _
    · rw [HT.out]; exact (b3.alloc _).alloc _
    · rw [Below.heap_alloc _ _ _ (by rw [size1]; omega)]; exact hd
    · rw [← ka]; exact (hB.alloc hB.size _).alloc (by rw [size1]; have := hB.size; omega) _
  have HI0 := Lib.hid hI0
  clear hI0 b0 b1 b2 b3
  rw [ka] at q3
  rw [ka, kr, kd]
  have hY : Hid (∀ T R K W, It k w S lp T R K W → Lk T R → YieldAt Fence.wide 1 Tryd.prog k.r #[.string (strOfNums T)] W fun e W' => (e = .returned (.bool true) ∧ ∃ K', It k w S lp [] R K' W') ∨ (e = .returned (.bool false) ∧ Jf k w S W' .done (some .ret))) := by
    intro T R K W hI hL
    obtain ⟨⟨hbT, hbR, hlTR⟩, ⟨A, m, c, hP, hO, hKm, hm⟩, hK, hS, hBW, hn⟩ := hI
    obtain ⟨x, v, hx, hps, hpl⟩ := line_data S T R K hbT (by simp at hlTR; omega) hL hS
    obtain ⟨ln, hln⟩ : ∃ ln, strOfNums T = ln := ⟨_, rfl⟩
    have KP := fun w hw => Lib.hid (hpl ln hln w hw)
    have hy := run_yield (P := Tryd.prog) (args := #[.string (strOfNums T)]) hP.2.2.2.2.2 (by rw [q4]; rfl)
    rw [q3, q4, q5, q6, hln] at hy
    rw [hln]
    refine ⟨_, _, _, _, hy, roundIn_of_wpIn trivial ?_⟩
    have hrun := run_beginRound (P := Tryd.prog) hP.2.2.2.2.2 q1
    have HP := Lib.hid (hP.putR hk { lp with state := .busy })
    have HO := Lib.hid (own_put hO (show k.r < k.n from hk.2.2.2.2.2) (.loop { lp with state := .busy }))
    have HB := Lib.hid (below_put hBW (show k.a ≤ k.r from by obtain ⟨_, _, _, _, _, _⟩ := hk; omega) (.loop { lp with state := .busy }))
    have hn2 : k.n ≤ (W.putObj k.r (.loop { lp with state := .busy })).heap.size := by rw [World.putObj_size]; exact hn
    have HPS := Lib.hid hps
    have HXO := Lib.hid hx
    have HKO := Lib.hid hK
    have Q1 := Lib.hid q1
    have Q2 := Lib.hid q2
    clear hP hO hBW hn hpl hps hS hy hx hK hL q1 q2 q3 q4 q5 q6
    gi_wp2
    clear hrun
    generalize W.putObj k.r (.loop { lp with state := .busy }) = Wb at HP HO HB hn2 ⊢
    refine ⟨trivial, ?_⟩
    refine (CallsIn.inRound _ (callsIn_wide.2 (KP Wb (fAll.keep _ _ HW.out (by rw [ka]; exact HB.out))).out)).mono ?_
    rintro e w3 ⟨rfl, hb3⟩
    have HP3 := Lib.hid (HP.out.keep hk (hb3.mono hn2))
    have HO3 := Lib.hid (own_same HO.out hb3)
    have HB3 := Lib.hid (HB.out.trans (hb3.mono (by have := HB.out.size; have := hB.size; omega)))
    have hn3 : k.n ≤ w3.heap.size := Nat.le_trans hn2 hb3.size
    clear hb3 HP HO HB hn2 KP
    obtain ⟨k1, k2, k3, k4, k5, k6⟩ := id hk
    have ha1 := HP3.out.1.lt
    have hc1 := HP3.out.1.cell
    have hf1 := HP3.out.1.frozen
    have ha2 := HP3.out.2.1.lt
    have hc2 := HP3.out.2.1.cell
    have hf2 := HP3.out.2.1.frozen
    have ha3 := HP3.out.2.2.1.lt
    have hc3 := HP3.out.2.2.1.cell
    have hf3 := HP3.out.2.2.1.frozen
    cases v with
    | false =>
      have hpr : plR x false = .agg #[.int .u8 0, .int .i64 0, .int .i64 0] := rfl
      gi_wp2
      refine ⟨trivial, ?_⟩
      gi_wp2
      exact ret_round hk (((HP3.out.setA hk _).setE hk 40).keep hk (new1.mono (by simpa using hn3))) ((((HB3.out.setCell (p := ⟨k.a, 0, none⟩) (Nat.le_refl _) _).setCell (p := ⟨k.e, 0, none⟩) (Nat.le_of_lt k1) _)).alloc (by simp; omega) _) (by simp; omega) (by rw [HPS.out, if_neg (fun h => (by cases h.1))])
    | true =>
      obtain ⟨o, a, b⟩ := x
      have hpr : plR (o, a, b) true = .agg #[.int .u8 o, .int .i64 a, .int .i64 b] := rfl
      gi_wp2
      refine ⟨trivial, ?_⟩
      by_cases hm2 : m < 200
      · have hmc : mcB ((m : Int) + 1) = true := by unfold mcB; rw [decide_eq_true (by omega), decide_eq_true (by omega)]; rfl
        refine (CallsIn.inRound _ (callsIn_wide.2 (mayc_v _ _ _ hmc))).mono ?_
        rintro e w4 ⟨rfl, rfl⟩
        have hinfo := Tryd.infoI
        rw [Option.map_eq_some_iff] at hinfo
        obtain ⟨i0, hi, hz⟩ := hinfo
        simp only [Prod.mk.injEq] at hz
        obtain ⟨hz0, hz1, hz2⟩ := hz
        have HO5 := Lib.hid (own_same (own_same HO3.out (new1 (a := .cells #[.int .u8 o, .int .i64 a, .int .i64 b] 47))) (new1 (a := .cells #[.int .u8 o, .int .i64 a, .int .i64 b] 47)))
        have hr5 := ri_new (w3.alloc (.cells #[.int .u8 o, .int .i64 a, .int .i64 b] 47)) (o, a, b) HXO.out
        rw [size1] at hr5
        have HR5 := Lib.hid hr5
        clear hr5
        gi_wp2_with (gi_at_builtin; refine wpListIn_append_own _ rfl _ _ 22 rfl k.n 47 i0 _ 3 24 Tryd.underlying22 hi hz0 hz1 hz2 rfl (by decide) _ m (cei K) rfl HO5.out ⟨w3.heap.size + 1, 0, none⟩ 1 1 (cei [(o, a, b)]) rfl rfl (ri_cells HR5.out (by omega)) (cei_one _) (by unfold maxLen; omega) (by omega) (by rw [size1, size1]; omega) ?_; intro v5 w5 ho5 hg5 _; obtain ⟨g5, c5, rfl⟩ := ownsRow_succ ho5; have hb5 := grown5 hn3 HO5.out hg5; have HP5 := Lib.hid (HP3.out.keep hk hb5); have hc5 := HP5.out.2.2.1.cell; have hf5 := HP5.out.2.2.1.frozen; have HB5 := Lib.hid hb5; have HO6 := Lib.hid ho5; clear hb5 ho5 hg5)
        refine go_round' hk Q1.out Q2.out (HP5.out.setL hk _) rfl (ownsRow_setCell_below HO6.out (show (⟨k.l, 0, none⟩ : Addr).block < k.n from by show k.l < k.n; omega) _ |> own_cei) hbR (by simp at hlTR; omega) (by rw [List.length_append, hKm]; rfl) (by omega) ?_ (((HB3.out.trans (HB5.out.mono (by omega)))).setCell (p := ⟨k.l, 0, none⟩) (show k.a ≤ k.l by omega) _) (by have := HB5.out.size; simp; omega) (by rw [HPS.out, if_pos ⟨by trivial, by omega⟩])
        intro y hy
        rcases List.mem_append.1 hy with hy | hy
        · exact HKO.out y hy
        · rw [List.mem_singleton.1 hy]; exact HXO.out
      · have hmc : mcB ((m : Int) + 1) = false := by unfold mcB; rw [decide_eq_true (by omega), decide_eq_false (by omega)]; rfl
        refine (CallsIn.inRound _ (callsIn_wide.2 (mayc_v _ _ _ hmc))).mono ?_
        rintro e w4 ⟨rfl, rfl⟩
        gi_wp2
        exact ret_round hk (((HP3.out.setA hk _).setE hk 40).keep hk (new1.mono (by simpa using hn3))) ((((HB3.out.setCell (p := ⟨k.a, 0, none⟩) (Nat.le_refl _) _).setCell (p := ⟨k.e, 0, none⟩) (Nat.le_of_lt k1) _)).alloc (by simp; omega) _) (by simp; omega) (by rw [HPS.out, if_neg (fun h => hm2 (by omega))])
  clear q3 q4 q5 q6
  refine (lines_in k hk w S lp 1 hY.out S [] _ HI0.out).mono ?_
  clear hY HI0
  rintro e2 W2 ⟨⟨v2, rfl⟩, h2⟩
  obtain ⟨k1, k2, k3, k4, k5, k6⟩ := id hk
  rcases h2 with ⟨K, hI⟩ | hJ
  · obtain ⟨-, ⟨A, m, c, hP, hO, hKm, hm⟩, hK, hS, hBW, hn⟩ := hI
    have hend := run_endLoop (P := Tryd.prog) hP.2.2.2.2.2 (by rw [q1]; simp)
    rw [q2] at hend
    refine ⟨none, _, hend, ?_⟩
    have HP := Lib.hid (hP.putR hk { lp with state := .exhausted })
    have HO := Lib.hid (own_put hO (show k.r < k.n from k6) (.loop { lp with state := .exhausted }))
    have HB4 := Lib.hid (below_put hBW (show k.a ≤ k.r by omega) (.loop { lp with state := .exhausted }))
    have hn4 : k.n ≤ (W2.putObj k.r (.loop { lp with state := .exhausted })).heap.size := by rw [World.putObj_size]; exact hn
    have HK := Lib.hid hK
    have HS : Hid (psC S = if K = [] then (40, []) else (0, K)) := by
      rw [Hid, hS]
      show psL [] [] K = _
      rw [psL_end]
      by_cases h : K = []
      · rw [if_pos h, if_neg (fun h2 => h2.2 h)]
      · rw [if_neg h, if_pos ⟨rfl, h⟩]
    have hrec : ({ lp with state := .exhausted, pending := none } : Loop) = { lp with state := .exhausted } := by rw [← q2]
    rw [hrec]
    clear hP hO hBW hn hK hS hend hrec
    generalize ({ lp with state := .exhausted } : Loop) = lq at HP HO HB4 hn4 ⊢
    generalize W2.putObj k.r (.loop lq) = W3 at HP HO HB4 hn4 ⊢
    have ha1 := HP.out.1.lt
    have hc1 := HP.out.1.cell
    have hf1 := HP.out.1.frozen
    have ha2 := HP.out.2.1.lt
    have hc2 := HP.out.2.1.cell
    have hf2 := HP.out.2.1.frozen
    have ha3 := HP.out.2.2.1.lt
    have hc3 := HP.out.2.2.1.cell
    have HD := Lib.hid HP.out.2.2.2.2.1
    clear q1 q2
    dsimp only
    by_cases hK0 : K = []
    · have hmc : mcB (m : Int) = false := by unfold mcB; rw [decide_eq_false (by subst hK0; simp at hKm; omega)]; rfl
      gi_wp2
      refine ⟨trivial, ?_⟩
      refine (callsIn_wide.2 (mayc_v _ _ _ hmc)).mono ?_
      rintro e w4 ⟨rfl, rfl⟩
      gi_wp2
      have HP4 := (HP.out.setA hk (.slice none 0 0)).setE hk 40
      generalize hW4 : (W3.setCell ⟨k.a, 0, none⟩ (.slice none 0 0)).setCell ⟨k.e, 0, none⟩ (.int .i64 40) = W4 at HP4 ⊢
      have HB5 : Below k.a w W4 := by subst hW4; exact ((HB4.out.setCell (p := ⟨k.a, 0, none⟩) (Nat.le_refl _) _).setCell (p := ⟨k.e, 0, none⟩) (Nat.le_of_lt k1) _)
      refine ⟨by simp, .inl ⟨_, _, rfl, run_takeDeferred HP4.2.2.2.2.1, ?_⟩⟩
      exact pa_end hk _ rfl rfl ka HP4 (K := []) (World.ownsRow_nil _ _ _ _) (fun x hx => (by cases hx)) (by rw [HS.out, if_pos hK0]) HB5
    · have hmc : mcB (m : Int) = true := by unfold mcB; rw [decide_eq_true (by have := List.length_pos_iff.2 hK0; omega), decide_eq_true (by omega)]; rfl
      gi_wp2
      refine ⟨trivial, ?_⟩
      refine (callsIn_wide.2 (mayc_v _ _ _ hmc)).mono ?_
      rintro e w4 ⟨rfl, rfl⟩
      gi_wp2
      have HP4 := (HP.out.setA hk (.slice A m c)).setE hk 0
      have HO4 := ownsRow_setCell_below (ownsRow_setCell_below HO.out (show (⟨k.a, 0, none⟩ : Addr).block < k.n from by show k.a < k.n; omega) (.slice A m c)) (show (⟨k.e, 0, none⟩ : Addr).block < k.n from by show k.e < k.n; omega) (.int .i64 0)
      generalize hW4 : (W3.setCell ⟨k.a, 0, none⟩ (.slice A m c)).setCell ⟨k.e, 0, none⟩ (.int .i64 0) = W4 at HP4 HO4 ⊢
      have HB5 : Below k.a w W4 := by subst hW4; exact ((HB4.out.setCell (p := ⟨k.a, 0, none⟩) (Nat.le_refl _) _).setCell (p := ⟨k.e, 0, none⟩) (Nat.le_of_lt k1) _)
      refine ⟨by simp, .inl ⟨_, _, rfl, run_takeDeferred HP4.2.2.2.2.1, ?_⟩⟩
      exact pa_end hk _ rfl rfl ka HP4 HO4 HK.out (by rw [HS.out, if_neg hK0]) HB5
  · obtain ⟨⟨l2, s2, lp2, hP, hst, hpe⟩, hS, hBW, hn⟩ := hJ
    have hend := run_endLoop (P := Tryd.prog) hP.2.2.2.2.2 (by rw [hst]; simp)
    rw [hpe] at hend
    refine ⟨some .ret, _, hend, ?_⟩
    have HP4 := hP.putR hk { lp2 with state := .exhausted, pending := some .ret }
    have HB5 := below_put hBW (show k.a ≤ k.r by omega) (.loop { lp2 with state := .exhausted, pending := some .ret })
    clear hP hBW hn hend
    generalize ({ lp2 with state := .exhausted, pending := some .ret } : Loop) = lq at HP4 HB5 ⊢
    generalize W2.putObj k.r (.loop lq) = W4 at HP4 HB5 ⊢
    dsimp only
    gi_wp2
    refine ⟨by simp, .inl ⟨_, _, rfl, run_takeDeferred HP4.2.2.2.2.1, ?_⟩⟩
    exact pa_end hk _ rfl rfl ka HP4 (K := []) (World.ownsRow_nil _ _ _ _) (fun x hx => (by cases hx)) hS HB5
theorem kparse : KParse fAll := fun S t w hw hb ht hl => cparse_any S t w hw hb ht hl
end Go.Proofs.YthmfjdafmnmgiaaDoor
