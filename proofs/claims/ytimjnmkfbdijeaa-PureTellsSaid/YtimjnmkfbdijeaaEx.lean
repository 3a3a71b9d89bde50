/-
  Package calls: leads, in memory.
-/
import Derived.Test.YtimjnmkfbdijeaaLeg
import Derived.Laws.EntriesVeiled
import Derived.Maps.OwnIn
import Derived.Sort.MapsRangeIn
namespace Go.Proofs.Ytimjnmkfbdijeaa
open Go.RowKit Go.Maps
set_option maxRecDepth 100000
set_option linter.unusedSimpArgs false
set_option linter.unusedVariables false
attribute [local go_sem] Oper.semAt_some

/-- The blocks: the graph's box, the marks, their box, the closure's box, the list's box, the order's box, the two of the loop's record; all else from n on. -/
structure Bw11 where
  a : Nat
  M : Nat
  m : Nat
  f : Nat
  l : Nat
  s : Nat
  d : Nat
  r : Nat
  n : Nat
def Bw11.ok (k : Bw11) : Prop := k.a < k.M ∧ k.M < k.m ∧ k.m < k.f ∧ k.f < k.l ∧ k.l < k.s ∧ k.s < k.d ∧ k.d < k.r ∧ k.r < k.n
structure Pw11 (k : Bw11) (W : World) (x l s : Value) (lp : Loop) : Prop where
  ba : Boxed W k.a 78 x
  bm : Boxed W k.m 96 (.map (some k.M))
  bf : Boxed W k.f 98 (.func (.func 52) #[] #[.pointer (some ⟨k.m, 0, none⟩)])
  bl : Boxed W k.l 53 l
  bs : Boxed W k.s 53 s
  bd : W.heap[k.d]? = some (.deferred (some []))
  br : W.heap[k.r]? = some (.loop lp)
section
variable {k : Bw11} {W W' : World} {x l s : Value} {lp : Loop}
theorem Pw11.fr {X : Nat → Prop} (h : Pw11 k W x l s lp) (hf : Fr11 X W W') (hX : ∀ j, j ≤ k.r → j ≠ k.M → ¬ X j) (hk : k.ok) : Pw11 k W' x l s lp := by
  obtain ⟨k1, k2, k3, k4, k5, k6, k7, k8⟩ := hk
  obtain ⟨h1, h2, h3, h4, h5, h6, h7⟩ := h
  have hlt : k.r < W.heap.size := (Array.getElem?_eq_some_iff.1 h7).1
  exact ⟨(hf.block _ (by omega) (hX _ (by omega) (by omega))).trans h1, (hf.block _ (by omega) (hX _ (by omega) (by omega))).trans h2, (hf.block _ (by omega) (hX _ (by omega) (by omega))).trans h3, (hf.block _ (by omega) (hX _ (by omega) (by omega))).trans h4, (hf.block _ (by omega) (hX _ (by omega) (by omega))).trans h5, (hf.block _ (by omega) (hX _ (by omega) (by omega))).trans h6, (hf.block _ (by omega) (hX _ (by omega) (by omega))).trans h7⟩
theorem Pw11.keep (h : Pw11 k W x l s lp) (hk : k.ok) (hb : Below k.n W W') : Pw11 k W' x l s lp := by
  obtain ⟨k1, k2, k3, k4, k5, k6, k7, k8⟩ := id hk
  exact h.fr (X := fun j => k.n ≤ j) (Fr11.of_below hb fun j h1 _ => h1) (fun j h1 _ => by omega) hk
theorem Pw11.setL (h : Pw11 k W x l s lp) (hk : k.ok) (v : Value) : Pw11 k (W.setCell ⟨k.l, 0, none⟩ v) x v s lp := by
  obtain ⟨k1, k2, k3, k4, k5, k6, k7, k8⟩ := hk
  obtain ⟨h1, h2, h3, h4, h5, h6, h7⟩ := h
  have o := fun j (hj : j ≠ k.l) => Below.heap_setCell W ⟨k.l, 0, none⟩ v j hj
  exact ⟨(o _ (by omega)).trans h1, (o _ (by omega)).trans h2, (o _ (by omega)).trans h3, h4.set _, (o _ (by omega)).trans h5, (o _ (by omega)).trans h6, (o _ (by omega)).trans h7⟩
theorem Pw11.putR (h : Pw11 k W x l s lp) (hk : k.ok) (p : Loop) : Pw11 k (W.putObj k.r (.loop p)) x l s p := by
  obtain ⟨k1, k2, k3, k4, k5, k6, k7, k8⟩ := hk
  obtain ⟨h1, h2, h3, h4, h5, h6, h7⟩ := h
  have o := fun j (hj : j ≠ k.r) => World.putObj_heap_other (w := W) (o := .loop p) hj
  exact ⟨(o _ (by omega)).trans h1, (o _ (by omega)).trans h2, (o _ (by omega)).trans h3, (o _ (by omega)).trans h4, (o _ (by omega)).trans h5, (o _ (by omega)).trans h6, World.putObj_heap_same (Array.getElem?_eq_some_iff.1 h7).1⟩
end
theorem Fr11.of_put11 {X : Nat → Prop} (w : World) {r : Nat} (hr : X r) (o : Obj) : Fr11 X w (w.putObj r o) := by
  refine ⟨rfl, rfl, rfl, by rw [World.putObj_size]; exact Nat.le_refl _, fun j hj hx => World.putObj_heap_other (fun e => hx (e ▸ hr))⟩
theorem zeroU11 (w : World) : (zeroValue 97).run Try.prog w = .ok (.agg #[]) w := by kernel_rfl
/-- Between two rounds: the order's places from i on are done. -/
def Iw11 (k : Bw11) (w : World) (n : Nat) (e : Nat → Nat → Bool) (lk : Nat → Bool) (kk : Nat) (o : List Nat) (x s : Value) (lp : Loop) (i : Nat) (W : World) : Prop :=
  (∃ A c ln K D, Pw11 k W x (.slice A ln c) s lp ∧ W.ownsRow k.n 3 1 (.slice A ln c) ln (ci9 K) ∧ K.length = ln ∧ Ms11 W k.M D ∧ Mf11 D n (mk11 e lk kk o i) ∧ Ks11 lk o i K) ∧ Below k.a w W ∧ k.n ≤ W.heap.size
/-- None is marked any more. -/
def Jw11 (k : Bw11) (w : World) (n : Nat) (lk : Nat → Bool) (x s : Value) (W : World) : Prop :=
  (∃ A c ln K lp, Pw11 k W x (.slice A ln c) s lp ∧ W.ownsRow k.n 3 1 (.slice A ln c) ln (ci9 K) ∧ K.length = ln ∧ ln ≤ n ∧ lp.state = .done ∧ lp.pending = some (.exit 0) ∧ (K.mergeSort fun x y => decide (x ≤ y)) = ns11 ((List.range n).filter lk)) ∧ Below k.a w W ∧ k.n ≤ W.heap.size
theorem goW11 {k : Bw11} (hk : k.ok) {w W : World} {n i kk ln c : Nat} {e : Nat → Nat → Bool} {lk : Nat → Bool} {o : List Nat} {x s : Value} {lp : Loop} {a : Act} {B : Ending → World → Prop} {A : Option Addr} {K : List Int} {D : DataW Unit} (h1 : lp.state = .ready) (h2 : lp.pending = none)
    (HP : Pw11 k W x (.slice A ln c) s { lp with state := .busy }) (hO : W.ownsRow k.n 3 1 (.slice A ln c) ln (ci9 K)) (hln : K.length = ln) (hms : Ms11 W k.M D) (hmf : Mf11 D n (mk11 e lk kk o i)) (hks : Ks11 lk o i K) (hB : Below k.a w W) (hn : k.n ≤ W.heap.size) :
    roundPost Try.prog k.r (fun e' W' => (e' = .returned (.bool true) ∧ Iw11 k w n e lk kk o x s lp i W') ∨ B e' W') .normal a W := by
  have hkr := hk.2.2.2.2.2.2.2
  refine ⟨_, _, run_endRound none HP.br, .inl ⟨rfl, ⟨A, c, ln, K, D, ?_, ownPut11 hO hkr _, hln, (Fr11.of_put11 (X := fun j => j = k.r) W rfl _).map hms (by obtain ⟨_, _, _, _, _, _, _, _⟩ := hk; omega), hmf, hks⟩, belowPut11 hB (by obtain ⟨_, _, _, _, _, _, _, _⟩ := hk; omega) _, by rw [World.putObj_size]; exact hn⟩⟩
  rw [lpBack11 h1 h2]
  exact HP.putR hk lp
set_option maxHeartbeats 8000000 in
theorem leads11_v (A Ao : Option Addr) (c co n kk : Nat) (Z : List Gz) (e : Nat → Nat → Bool) (lk : Nat → Bool) (o : List Nat) (w : World) (hg : Gw11 w A c Z) (hz : Z.map (·.2.2) = gre11 e n) (ho : Rn w Ao co (ns11 o)) (hl : Lk11 e n kk lk o) (hn : n ≤ 1000) :
    Calls Try.prog 40 #[.slice A n c, .slice Ao n co, .int .i64 kk] w fun r w' => ∃ A' c', r = .returned (.slice A' (ns11 ((List.range n).filter lk)).length c') ∧ w'.ownsRow w.heap.size 3 1 (.slice A' (ns11 ((List.range n).filter lk)).length c') (ns11 ((List.range n).filter lk)).length (ci9 (ns11 ((List.range n).filter lk))) ∧ Below w.heap.size w w' := by
  have hzl : Z.length = n := by have := congrArg List.length hz; simpa [gre11] using this
  have HLK := Lib.hid hl
  have HZ := Lib.hid hz
  have HZL := Lib.hid hzl
  have HGW := Lib.hid hg
  have HRO := Lib.hid ho
  obtain ⟨⟨Ak, ck, K0⟩, hzk, hKE⟩ := rel_at11 hzl hz hl.kn
  dsimp only at hKE
  obtain ⟨adz, hA, z0, hrk⟩ := hg.at_ hzk
  subst hA
  rw [gv11] at z0
  dsimp only at z0 hrk
  obtain ⟨kn, hkl⟩ : ∃ kn, K0.length = kn := ⟨_, rfl⟩
  rw [hkl] at z0
  have HKL : Hid (((List.range n).filter (e kk)).length = kn) := Lib.hid (by rw [← hkl, hKE, ns11, List.length_map])
  have HRK : Hid (Rn w Ak ck (ns11 ((List.range n).filter (e kk)))) := Lib.hid (by rw [← hKE]; exact hrk)
  have hkk : kk < n := hl.kn
  obtain ⟨T, hT⟩ : ∃ T, ns11 ((List.range n).filter lk) = T := ⟨_, rfl⟩
  have HT := Lib.hid hT
  rw [hT]
  obtain ⟨b, hb⟩ : ∃ b, w.heap.size = b := ⟨_, rfl⟩
  have HBB := Lib.hid hb
  clear hg hz hzl ho hl hzk hKE hrk hkl hT
  have hmm := @run_makeMap Try.prog
  have hmf : ∀ (fn : Fn) (first cap : Array Value) (w : World), (Instr.makeFunc fn first cap).run Try.prog w = .ok (.func fn first cap) w := fun _ _ _ _ => rfl
  refine (callsIn_wide (n := 3)).1 ?_
  refine callsIn_of_wp_marks Try.func40 rfl trivial ?_ rfl
  simp only [Try.ntmps40, List.size_toArray, List.length_cons, List.length_nil, Nat.reduceAdd, Nat.reduceSub, Array.replicate_succ, Array.replicate_zero, List.push_toArray, List.append_toArray, List.nil_append, List.cons_append]
  refine wpIn_wide.2 ?_
  go_upto_region 4 with (fail)
  obtain ⟨M, hM⟩ : ∃ M, b + 1 = M := ⟨_, rfl⟩
  obtain ⟨m, hm⟩ : ∃ m, M + 1 = m := ⟨_, rfl⟩
  obtain ⟨f, hf⟩ : ∃ f, m + 1 = f := ⟨_, rfl⟩
  obtain ⟨l, hl⟩ : ∃ l, f + 1 = l := ⟨_, rfl⟩
  rw [hM, hm, hf, hl]
  obtain ⟨wA, hwA⟩ : ∃ wA, wA = ((((w.alloc (.cells #[.slice (some adz) n c] 78)).alloc (.map #[] 0)).alloc (.cells #[.map (some M)] 96)).alloc (.cells #[.func (.func 52) #[] #[.pointer (some ⟨m, 0, none⟩)]] 98)).alloc (.cells #[.slice none 0 0] 53) := ⟨_, rfl⟩
  have hsz : wA.heap.size = l + 1 := by subst hwA; simp [hb]; omega
  have b0 : Boxed wA b 78 (.slice (some adz) n c) := by subst hwA; have := Boxed.new w 78 (.slice (some adz) n c); rw [hb] at this; exact (((this.alloc _).alloc _).alloc _).alloc _
  have b1 : Boxed wA m 96 (.map (some M)) := by subst hwA; have := Boxed.new ((w.alloc (.cells #[.slice (some adz) n c] 78)).alloc (.map #[] 0)) 96 (.map (some M)); rw [size1, size1, hb, hM, hm] at this; exact (this.alloc _).alloc _
  have b2 : Boxed wA f 98 (.func (.func 52) #[] #[.pointer (some ⟨m, 0, none⟩)]) := by subst hwA; have := Boxed.new (((w.alloc (.cells #[.slice (some adz) n c] 78)).alloc (.map #[] 0)).alloc (.cells #[.map (some M)] 96)) 98 (.func (.func 52) #[] #[.pointer (some ⟨m, 0, none⟩)]); rw [size1, size1, size1, hb, hM, hm, hf] at this; exact this.alloc _
  have b3 : Boxed wA l 53 (.slice none 0 0) := by subst hwA; have := Boxed.new ((((w.alloc (.cells #[.slice (some adz) n c] 78)).alloc (.map #[] 0)).alloc (.cells #[.map (some M)] 96)).alloc (.cells #[.func (.func 52) #[] #[.pointer (some ⟨m, 0, none⟩)]] 98)) 53 (.slice none 0 0); rw [size1, size1, size1, size1, hb, hM, hm, hf, hl] at this; exact this
  have hms : Ms11 wA M (.map []) := by
    subst hwA
    have := World.ownsMap_made (H := Unit) (w.alloc (.cells #[.slice (some adz) n c] 78)) Try.prog 3 (unitElem (H := Unit))
    rw [size1, hb, hM] at this
    exact Ms11.of (((this.alloc _).alloc _).alloc _)
  have hB : Below b w wA := by subst hwA; exact (((((Below.refl _ w).alloc (by omega) _).alloc (by rw [size1]; omega) _).alloc (by rw [size1, size1]; omega) _).alloc (by rw [size1, size1, size1]; omega) _).alloc (by rw [size1, size1, size1, size1]; omega) _
  rw [← hwA]
  clear hwA hmm hmf
  have HB0 := Lib.hid b0
  have HB1 := Lib.hid b1
  have HB2 := Lib.hid b2
  have HB3 := Lib.hid b3
  have HBA := Lib.hid hB
  have hRK : Rn wA Ak ck (ns11 ((List.range n).filter (e kk))) := HRK.out.keep (by rw [hb]; exact hB)
  have hadz : adz.block < b := by have := cell_lt z0; rw [add_block] at this; omega
  have HMK := Lib.hid (mark11_v Ak ck kn n m M ((List.range n).filter (e kk)) (.map []) (fun _ => false) wA.drew (Fr11.rn ((Fr11.refl (fun _ => False) wA).drewN 1) hRK fun _ _ _ => id) HKL.out (fun t ht => List.mem_range.1 (List.mem_filter.1 ht).1) hn b1 hms (Mf11.nil n) (by omega) (fun ad hA h0 hbM => by
    have h1 := HRK.out
    subst hA
    obtain ⟨ad', hA', hc'⟩ := h1.at_ (i := 0) (List.getElem?_eq_getElem (by rw [ns11, List.length_map, HKL.out]; exact h0))
    injection hA' with hA'
    subst hA'
    have := cell_lt hc'
    rw [add_block] at this
    omega))
  have HS0 : wA.drew.cell? ⟨f, 0, none⟩ = some (.func (.func 52) #[] #[.pointer (some ⟨m, 0, none⟩)]) ∧ wA.drew.cell? ⟨b, 0, none⟩ = some (.slice (some adz) n c) ∧ wA.drew.cell? (adz.add kk) = some (.slice Ak kn ck) := ⟨b2.cell, b0.cell, (hB.cell (by rw [add_block]; exact hadz)).trans z0⟩
  have HSK : Hid (∀ w', Fr11 (fun j => j = M) wA.drew w' → w'.cell? ⟨f, 0, none⟩ = some (.func (.func 52) #[] #[.pointer (some ⟨m, 0, none⟩)]) ∧ w'.cell? ⟨b, 0, none⟩ = some (.slice (some adz) n c) ∧ w'.cell? (adz.add kk) = some (.slice Ak kn ck)) := Lib.hid fun w' hf' => ⟨(hf'.box b2 (by omega)).cell, (hf'.box b0 (by omega)).cell, (World.cell?_of_block (hf'.block (adz.add kk).block (by rw [add_block]; show adz.block < wA.heap.size; omega) (by rw [add_block]; omega))).trans HS0.2.2⟩
  clear b0 b1 b2 b3 hB hms hRK z0
  refine wp_region_noPanic ?_
  refine wp_region_held_drew (S := fun w' => w'.cell? ⟨f, 0, none⟩ = some (.func (.func 52) #[] #[.pointer (some ⟨m, 0, none⟩)]) ∧ w'.cell? ⟨b, 0, none⟩ = some (.slice (some adz) n c) ∧ w'.cell? (adz.add kk) = some (.slice Ak kn ck)) (by kernel_rfl) (HS0) (fun hHeld => ?_)
  refine wpAnyH_take (i := 0) (v := ?_) rfl (by kernel_rfl) (by kernel_rfl) (by kernel_rfl) (fun _ _ _ h => h) (Or.inl ⟨by rfl, ?_⟩) (by assumption) ?_
  rotate_left 1
  · intro w hSw; (try dsimp only at hSw); obtain ⟨s0, s1, s2⟩ := hSw; go_simp; try with_reducible rfl
  try simp only [Act.put, List.getElem_toArray, List.getElem_cons_zero, List.getElem_cons_succ, List.setIfInBounds_toArray, List.set_cons_zero, List.set_cons_succ]
  refine wpAnyH_take (i := 1) (v := ?_) rfl (by kernel_rfl) (by kernel_rfl) (by kernel_rfl) (fun _ _ _ h => h) (Or.inl ⟨by rfl, ?_⟩) (by assumption) ?_
  rotate_left 1
  · intro w hSw; (try dsimp only at hSw); obtain ⟨s0, s1, s2⟩ := hSw; go_simp; try with_reducible rfl
  try simp only [Act.put, List.getElem_toArray, List.getElem_cons_zero, List.getElem_cons_succ, List.setIfInBounds_toArray, List.set_cons_zero, List.set_cons_succ]
  refine wpAnyH_take (i := 2) (v := ?_) rfl (by kernel_rfl) (by kernel_rfl) (by kernel_rfl) (fun _ _ _ h => h) (Or.inl ⟨by rfl, ?_⟩) (by assumption) ?_
  rotate_left 1
  · intro w _; go_simp; try with_reducible rfl
  try simp only [Act.put, List.getElem_toArray, List.getElem_cons_zero, List.getElem_cons_succ, List.setIfInBounds_toArray, List.set_cons_zero, List.set_cons_succ]
  refine wpAnyH_take (i := 3) (v := ?_) rfl (by kernel_rfl) (by kernel_rfl) (by kernel_rfl) (fun _ _ _ h => h) (Or.inl ⟨by rfl, ?_⟩) (by assumption) ?_
  rotate_left 1
  · intro w _; go_simp; try with_reducible rfl
  try simp only [Act.put, List.getElem_toArray, List.getElem_cons_zero, List.getElem_cons_succ, List.setIfInBounds_toArray, List.set_cons_zero, List.set_cons_succ]
  refine wpAnyH_take (i := 4) (v := ?_) rfl (by kernel_rfl) (by kernel_rfl) (by kernel_rfl) (fun _ _ _ h => h) (Or.inl ⟨by rfl, ?_⟩) (by assumption) ?_
  rotate_left 1
  · intro w hSw; (try dsimp only at hSw); obtain ⟨s0, s1, s2⟩ := hSw; go_simp; try with_reducible rfl
  try simp only [Act.put, List.getElem_toArray, List.getElem_cons_zero, List.getElem_cons_succ, List.setIfInBounds_toArray, List.set_cons_zero, List.set_cons_succ]
  refine wpAnyH_ready (rs := [5]) (by kernel_rfl) (by simp) ?_
  refine AllReadyH.cons rfl (fun K hK => ?_) AllReadyH.nil
  go_simp
  refine HMK.out.mono ?_
  rintro r w2 ⟨rfl, D, hms, hmf2, hfr⟩
  have HMs := Lib.hid hms
  have HMf := Lib.hid hmf2
  have HFR := Lib.hid hfr
  have HS2 := HSK.out w2 hfr
  clear hms hmf2 hfr
  go_wp2_with fail
  refine hK.out _ _ (HS2) (fun hHeld => ?_)
  clear hK K
  try simp only [Act.put, List.getElem_toArray, List.getElem_cons_zero, List.getElem_cons_succ, List.setIfInBounds_toArray, List.set_cons_zero, List.set_cons_succ]
  refine wpAnyH_done (by kernel_rfl) ?_ _
  clear hHeld HS0 HSK HMK HS2
  refine NoPanic.normal ?_
  go_wp2_with fail
  refine (back11_0 Ao n co w2).mono ?_
  rintro r w3 ⟨rfl, hw3⟩
  have hs2 : w2.heap.size ≥ l + 1 := by have := HFR.out.size; show _ ≤ _; have h : wA.drew.heap.size = l + 1 := hsz; omega
  obtain ⟨s, hs⟩ : ∃ s, w2.heap.size = s := ⟨_, rfl⟩
  have b0 : Boxed w3 b 78 (.slice (some adz) n c) := by rw [hw3]; exact (HFR.out.box HB0.out.drew11 (by omega)).alloc _
  have b1 : Boxed w3 m 96 (.map (some M)) := by rw [hw3]; exact (HFR.out.box HB1.out.drew11 (by omega)).alloc _
  have b2 : Boxed w3 f 98 (.func (.func 52) #[] #[.pointer (some ⟨m, 0, none⟩)]) := by rw [hw3]; exact (HFR.out.box HB2.out.drew11 (by omega)).alloc _
  have b3 : Boxed w3 l 53 (.slice none 0 0) := by rw [hw3]; exact (HFR.out.box HB3.out.drew11 (by omega)).alloc _
  have b4 : Boxed w3 s 53 (.slice Ao n co) := by rw [hw3, ← hs]; exact Boxed.new w2 _ _
  have hms : Ms11 w3 M D := by rw [hw3]; exact World.ownsMap.alloc HMs.out _
  have hB3 : Below b w w3 := by
    rw [hw3]
    refine Below.alloc ?_ (by omega) _
    refine HBA.out.drew.trans (HFR.out.below (B := b) fun j hj => ⟨?_, by omega⟩)
    have h : wA.drew.heap.size = l + 1 := hsz
    omega
  have hsz3 : w3.heap.size = s + 1 := by rw [hw3, size1, hs]
  rw [hs]
  clear hw3 HMs HFR HB0 HB1 HB2 HB3 HBA hsz
  go_wp2_with fail
  refine (wpIn_wide (n := 3)).1 ?_
  refine rangeBy11 62 #[.pointer (some ⟨s, 0, none⟩)] rfl (enters_of Try.func62 (by kernel_rfl) rfl) (fun lp q1 q2 q3 q4 q5 q6 => ?_)
  obtain ⟨k, ka, kM, km, kf, kl, ks, kd, kr, kn'⟩ : ∃ k : Bw11, b = k.a ∧ M = k.M ∧ m = k.m ∧ f = k.f ∧ l = k.l ∧ s = k.s ∧ w3.heap.size = k.d ∧ w3.heap.size + 1 = k.r ∧ w3.heap.size + 2 = k.n := ⟨⟨_, _, _, _, _, _, _, _, _⟩, rfl, rfl, rfl, rfl, rfl, rfl, rfl, rfl, rfl⟩
  subst ka kM km kf kl ks
  have hk : k.ok := by unfold Bw11.ok; omega
  have hI0 : Iw11 k w n e lk kk o (.slice (some adz) n c) (.slice Ao n co) lp n ((w3.alloc (.deferred (some []))).alloc (.loop lp)) := by
    have hsz : ((w3.alloc (.deferred (some []))).alloc (.loop lp)).heap.size = k.n := by rw [size1, size1]; omega
    have hd := World.alloc_heap_new w3 (.deferred (some []))
    have hr := World.alloc_heap_new (w3.alloc (.deferred (some []))) (.loop lp)
    rw [size1, kr] at hr
    rw [kd] at hd
    refine ⟨⟨none, 0, 0, [], D, ⟨(b0.alloc _).alloc _, (b1.alloc _).alloc _, (b2.alloc _).alloc _, (b3.alloc _).alloc _, (b4.alloc _).alloc _, ?_, hr⟩, World.ownsRow_nil _ _ _ _, rfl, (World.ownsMap.alloc hms _).alloc _, ?_, ⟨List.nodup_nil, fun x => ?_⟩⟩, ?_, by omega⟩
    · rw [Below.heap_alloc _ _ _ (by rw [size1]; omega)]; exact hd
    · have h := HMf.out
      have e1 : mk11 e lk kk o n = fun t => false || ((List.range n).filter (e kk)).contains t := by funext t; rw [HLK.out.start]; rfl
      rw [e1]
      exact h
    · rw [List.drop_of_length_le (by rw [HLK.out.len]; exact Nat.le_refl _)]
      exact ⟨fun h => (by cases h), fun ⟨_, h, _⟩ => (by cases h)⟩
    · exact (hB3.alloc (by omega) _).alloc (by rw [size1]; omega) _
  have HI0 := Lib.hid hI0
  clear hI0 b0 b1 b2 b3 b4 hms hB3 HMf
  rw [kr, kd]
  have hY : Hid (∀ i x W, (ns11 o)[i]? = some x → Iw11 k w n e lk kk o (.slice (some adz) n c) (.slice Ao n co) lp (i + 1) W → YieldAt Fence.wide 1 Try.prog k.r #[.int .i64 i, .int .i64 x] W fun e' W' => (e' = .returned (.bool true) ∧ Iw11 k w n e lk kk o (.slice (some adz) n c) (.slice Ao n co) lp i W') ∨ (e' = .returned (.bool false) ∧ Jw11 k w n lk (.slice (some adz) n c) (.slice Ao n co) W')) := by
    intro i x W hx hI
    obtain ⟨t, hto, rfl⟩ : ∃ t, o[i]? = some t ∧ x = (t : Int) := by
      rw [ns11, List.getElem?_map] at hx
      obtain ⟨t, ht, rfl⟩ := Option.map_eq_some_iff.1 hx
      exact ⟨t, ht, rfl⟩
    obtain ⟨⟨A1, c1, ln, K, D, hP, hO, hln, hms, hmf, hks⟩, hBW, hn2⟩ := hI
    have hy := run_yield (P := Try.prog) (args := #[.int .i64 i, .int .i64 (t : Int)]) hP.br (by rw [q4]; rfl)
    rw [q3, q4, q5, q6] at hy
    refine ⟨_, _, _, _, hy, roundIn_of_wpIn trivial ?_⟩
    have hrun := run_beginRound (P := Try.prog) hP.br q1
    have HP := Lib.hid (hP.putR hk { lp with state := .busy })
    have HO := Lib.hid (ownPut11 hO (show k.r < k.n from hk.2.2.2.2.2.2.2) (.loop { lp with state := .busy }))
    have HB := Lib.hid (belowPut11 hBW (show k.a ≤ k.r from by obtain ⟨_, _, _, _, _, _, _, _⟩ := hk; omega) (.loop { lp with state := .busy }))
    have hn3 : k.n ≤ (W.putObj k.r (.loop { lp with state := .busy })).heap.size := by rw [World.putObj_size]; exact hn2
    have HMs : Hid (Ms11 (W.putObj k.r (.loop { lp with state := .busy })) k.M D) := Lib.hid ((Fr11.of_put11 (X := fun j => j = k.r) W rfl _).map hms (by obtain ⟨_, _, _, _, _, _, _, _⟩ := hk; omega))
    have HMf := Lib.hid hmf
    have HKS := Lib.hid hks
    have HLN := Lib.hid hln
    have HTO := Lib.hid hto
    have Q1 := Lib.hid q1
    have Q2 := Lib.hid q2
    have hlnn : ln ≤ n := by rw [← hln]; exact hks.len HLK.out
    clear hP hO hBW hn2 hms hmf hks hln hx hto q1 q2 q3 q4 q5 q6 hy
    gi_wp2
    refine ⟨_, hrun, ?_⟩
    clear hrun
    generalize W.putObj k.r (.loop { lp with state := .busy }) = Wb at HP HO HB hn3 HMs ⊢
    obtain ⟨k1, k2, k3, k4, k5, k6, k7, k8⟩ := id hk
    have a1 := HP.out.bm.cell
    have a1l := HP.out.bm.lt
    by_cases hz0 : size D = 0
    · have HFN : Hid ((K.mergeSort fun x y => decide (x ≤ y)) = ns11 ((List.range n).filter lk)) := Lib.hid (by
        refine HKS.out.fin HLK.out fun q t hq ht => HLK.out.none (i := i + 1) (fun u => ?_) (i + 1) q t (by omega) hq ht
        have h := HMf.out.size
        rw [hz0] at h
        by_cases hu : u < n
        · exact cp11_zero.1 h.symm u hu
        · rw [← Bool.not_eq_true]
          exact fun h2 => hu (HMf.out.lt u h2))
      gi_wp2_with (gi_at_len; refine wpListIn_len_own _ rfl _ 96 rfl 3 97 Try.underlying96 _ k.M (size D) D rfl HMs.out ?_)
      exact ⟨_, _, run_endRound (some (.exit 0)) HP.out.br, .inr ⟨rfl, ⟨A1, c1, ln, K, _, HP.out.putR hk _, ownPut11 HO.out k8 _, HLN.out, hlnn, rfl, rfl, HFN.out⟩, belowPut11 HB.out (by omega) _, by rw [World.putObj_size]; exact hn3⟩⟩
    · obtain ⟨v, hv⟩ : ∃ v, has D (kl11 t) = v := ⟨_, rfl⟩
      have HV : Hid (lk t = v) := Lib.hid (by rw [← hv, HMf.out.has, HLK.out.at_ HTO.out])
      have hze : ((size D : Int) == 0) = false := by simp; omega
      have htn : t < n := HLK.out.ltn HTO.out
      cases v with
      | false =>
        have HMf2 : Hid (Mf11 D n (mk11 e lk kk o i)) := Lib.hid (by
          have e1 : mk11 e lk kk o i = mk11 e lk kk o (i + 1) := by funext u; exact HLK.out.skip HTO.out HV.out
          rw [e1]
          exact HMf.out)
        have HKS2 : Hid (Ks11 lk o i K) := Lib.hid (HKS.out.skip HTO.out HV.out)
        gi_wp2_with (first | (gi_at_len; refine wpListIn_len_own _ rfl _ 96 rfl 3 97 Try.underlying96 _ k.M (size D) D rfl HMs.out ?_) | (gi_at_lookup; refine wpListIn_lookup_own_unit _ rfl _ _ 96 rfl 3 97 law11 Try.underlying96 (zeroU11 _) k.M (size D) D rfl HMs.out _ _ rfl (key11 (by omega)) ?_))
        exact goW11 hk Q1.out Q2.out (HP.out.keep hk (new1.mono hn3)) (HO.out.alloc _) HLN.out (World.ownsMap.alloc HMs.out _) HMf2.out HKS2.out (HB.out.alloc (by omega) _) (by rw [size1]; omega)
      | true =>
        have HMf2 : Hid (Mf11 (D.del (kl11 t)) n fun u => mk11 e lk kk o (i + 1) u && !(u == t)) := Lib.hid (by
          refine HMf.out.del (p := mk11 e lk kk o (i + 1)) (by rw [HLK.out.at_ HTO.out]; exact HV.out) (by simp) fun j hj => ?_
          have h : (j == t) = false := by simpa using hj
          rw [h]
          simp)
        have HKS2 : Hid (Ks11 lk o i (K ++ [(t : Int)])) := Lib.hid (HKS.out.step HLK.out HTO.out HV.out)
        gi_wp2_with (first | (gi_at_len; refine wpListIn_len_own _ rfl _ 96 rfl 3 97 Try.underlying96 _ k.M (size D) D rfl HMs.out ?_) | (gi_at_lookup; refine wpListIn_lookup_own_unit _ rfl _ _ 96 rfl 3 97 law11 Try.underlying96 (zeroU11 _) k.M (size D) D rfl HMs.out _ _ rfl (key11 (by omega)) ?_) | (gi_at_delete; refine wpListIn_delete_own _ rfl _ _ 96 3 rfl 97 law11 Try.underlying96 _ k.M (size D) D rfl (World.ownsMap.alloc HMs.out _) _ _ rfl (key11 (by omega)) ?_))
        intro w4 hown4 hturn4
        have hf4 : Fr11 (fun j => j = k.M) (Wb.alloc (.cells #[] 97)) w4 := Fr11.of_grown hturn4.grown fun j e' => by injection e'
        have HMs4 : Hid (Ms11 w4 k.M (D.del (kl11 t))) := Lib.hid (Ms11.of hown4)
        have HP4 := Lib.hid ((HP.out.keep hk (new1.mono hn3)).fr hf4 (fun j h1 h2 => h2) hk)
        have HO4 := Lib.hid (hf4.own (HO.out.alloc _) (fun g hg => by have := (HO.out.lt g hg).1; omega))
        have HB4 : Hid (Below k.a w w4) := Lib.hid ((HB.out.alloc (by omega) _).trans (hf4.below (B := k.a) fun j hj => ⟨by rw [size1]; omega, by omega⟩))
        have hn4 : k.n ≤ w4.heap.size := by have := hf4.size; rw [size1] at this; omega
        clear hown4 hturn4 hf4 HMs HP HO HB hn3 a1 a1l
        have a2 := HP4.out.bl.cell
        have a2f := HP4.out.bl.frozen
        have a2l := HP4.out.bl.lt
        have hinfo := Try.infoN
        rw [Option.map_eq_some_iff] at hinfo
        obtain ⟨i0, hi0, hzz⟩ := hinfo
        simp only [Prod.mk.injEq] at hzz
        obtain ⟨hzz0, hzz1, hzz2⟩ := hzz
        have HO5 := Lib.hid (HO4.out.alloc (.cells #[.int .i64 (t : Int)] 3))
        have HC5 : Hid (∀ (j : Nat) (u : Value), (ci9 [(t : Int)])[j]? = some u → (w4.alloc (.cells #[.int .i64 (t : Int)] 3)).cell? ((⟨w4.heap.size, 0, none⟩ : Addr).add j) = some u) := Lib.hid fun j u hj => by
          match j, hj with
          | 0, hj =>
            simp [ci9] at hj
            subst hj
            simp [go_sem, Addr.add]
        gi_wp2_with (gi_at_builtin; refine wpListIn_append_own _ rfl _ _ 53 rfl k.n 3 i0 _ 1 8 Try.underlying53 hi0 hzz0 hzz1 hzz2 rfl (by decide) _ ln (ci9 K) rfl HO5.out ⟨w4.heap.size, 0, none⟩ 1 1 (ci9 [(t : Int)]) rfl rfl HC5.out (ci9_oneN _) (by unfold maxLen; omega) (by omega) (by rw [size1]; omega) ?_; intro v5 w5 ho5 hg5 _; obtain ⟨g5, c5, rfl⟩ := own_some11 ho5 (by omega); have hb5 := ((Below.refl k.n w4).alloc hn4 (.cells #[.int .i64 (t : Int)] 3)).grown hg5 (by rw [size1]; omega) (fun j hj => (HO5.out.lt j hj).1); have HP5 := Lib.hid (HP4.out.keep hk hb5); have hc5 := HP5.out.bl.cell; have hf5 := HP5.out.bl.frozen; have HB5 := Lib.hid hb5; have HO6 := Lib.hid ho5; clear hb5 ho5 hg5)
        have HP6 := Lib.hid (HP5.out.setL hk (.slice (some ⟨g5, 0, none⟩) (ln + 1) c5))
        have HO7 := Lib.hid (ownsRow_setCell_below HO6.out (show (⟨k.l, 0, none⟩ : Addr).block < k.n from by show k.l < k.n; omega) (.slice (some ⟨g5, 0, none⟩) (ln + 1) c5))
        have HB6 : Hid (Below k.a w (w5.setCell ⟨k.l, 0, none⟩ (.slice (some ⟨g5, 0, none⟩) (ln + 1) c5))) := Lib.hid ((HB4.out.trans (HB5.out.mono (by omega))).setCell (p := ⟨k.l, 0, none⟩) (show k.a ≤ k.l by omega) _)
        have HMs6 : Hid (Ms11 (w5.setCell ⟨k.l, 0, none⟩ (.slice (some ⟨g5, 0, none⟩) (ln + 1) c5)) k.M (D.del (kl11 t))) := Lib.hid (World.ownsMap.setCell ((Fr11.of_below (X := fun j => k.n ≤ j) HB5.out fun j h _ => h).map HMs4.out (by omega)) (a := ⟨k.l, 0, none⟩) (show k.M ≠ k.l by omega) _)
        have hn6 : k.n ≤ (w5.setCell ⟨k.l, 0, none⟩ (.slice (some ⟨g5, 0, none⟩) (ln + 1) c5)).heap.size := by have := HB5.out.size; simp; omega
        generalize w5.setCell ⟨k.l, 0, none⟩ (.slice (some ⟨g5, 0, none⟩) (ln + 1) c5) = w6 at HP6 HO7 HB6 HMs6 hn6 ⊢
        clear HP4 HO4 HB4 hn4 a2 a2f a2l HO5 HC5 HP5 hc5 hf5 HB5 HO6 HMs4 hi0 hzz0 hzz1 hzz2
        have HGT := Lib.hid (HGW.out.keep (by rw [HBB.out]; exact HB6.out))
        obtain ⟨⟨At, ct, Kt⟩, hzt, hKt⟩ := rel_at11 HZL.out HZ.out htn
        dsimp only at hKt
        obtain ⟨adt, hAt, zt0, hrt⟩ := HGT.out.at_ hzt
        injection hAt with hAt
        subst hAt
        rw [gv11] at zt0
        dsimp only at zt0 hrt
        obtain ⟨tn, htn2⟩ : ∃ tn, Kt.length = tn := ⟨_, rfl⟩
        rw [htn2] at zt0
        have hrt2 : Rn w6 At ct (ns11 ((List.range n).filter (e t))) := by rw [← hKt]; exact hrt
        have hmx : Try.prog.follows .mixedOrders = true := by kernel_rfl
        have hab : ∀ ad', At = some ad' → 0 < tn → ad'.block ≠ k.M := fun ad' hA h0 hbM => by
          obtain ⟨_, _, _, h1⟩ := HGW.out.at_ hzt
          dsimp only at h1
          subst hA
          obtain ⟨ad2, hA2, hc2⟩ := h1.at_ (i := 0) (List.getElem?_eq_getElem (by omega))
          injection hA2 with hA2
          subst hA2
          have := cell_lt hc2
          rw [add_block] at this
          have := HBB.out
          omega
        have HMK := Lib.hid (mark11_v At ct tn n k.m k.M ((List.range n).filter (e t)) (D.del (kl11 t)) (fun u => mk11 e lk kk o (i + 1) u && !(u == t)) w6.drew (Fr11.rn ((Fr11.refl (fun _ => False) w6).drewN 1) hrt2 fun _ _ _ => id) (by rw [← htn2, hKt, ns11, List.length_map]) (fun u hu => List.mem_range.1 (List.mem_filter.1 hu).1) hn HP6.out.bm HMs6.out HMf2.out (by omega) hab)
        have a3 := HP6.out.bf.cell
        have a4 := HP6.out.ba.cell
        clear hzt hKt hrt htn2 hrt2 hab HGT
        have HLN2 : Hid ((K ++ [(t : Int)]).length = ln + 1) := Lib.hid (by rw [List.length_append, HLN.out]; rfl)
        have HOI : Hid (w6.ownsRow k.n 3 1 (.slice (some ⟨g5, 0, none⟩) (ln + 1) c5) (ln + 1) (ci9 (K ++ [(t : Int)]))) := Lib.hid (by rw [ci9, List.map_append]; exact HO7.out)
        have HMQ : Hid (mk11 e lk kk o i = fun u => (mk11 e lk kk o (i + 1) u && !(u == t)) || ((List.range n).filter (e t)).contains u) := Lib.hid (by funext u; exact HLK.out.step HTO.out HV.out)
        have TAIL : Hid (∀ (D7 : DataW Unit) (w7 : World) (ac : Act), Ms11 w7 k.M D7 → Mf11 D7 n (fun u => (mk11 e lk kk o (i + 1) u && !(u == t)) || ((List.range n).filter (e t)).contains u) → Fr11 (fun j => j = k.M) w6.drew w7 → roundPost Try.prog k.r (fun e' W' => (e' = .returned (.bool true) ∧ Iw11 k w n e lk kk o (.slice (some adz) n c) (.slice Ao n co) lp i W') ∨ (e' = .returned (.bool false) ∧ Jw11 k w n lk (.slice (some adz) n c) (.slice Ao n co) W')) .normal ac w7) := Lib.hid fun D7 w7 ac hms7 hmf7 hfr7 => by
          have hfr8 : Fr11 (fun j => j = k.M) w6 w7 := ((Fr11.refl (fun j => j = k.M) w6).drewN 1).trans hfr7 fun _ _ h => h
          exact goW11 hk Q1.out Q2.out (HP6.out.fr hfr8 (fun j h1 h2 => h2) hk) (hfr8.own HOI.out (fun g hg => by have := (HOI.out.lt g hg).1; omega)) HLN2.out hms7 (by rw [HMQ.out]; exact hmf7) HKS2.out (HB6.out.trans (hfr8.below (B := k.a) fun j hj => ⟨by omega, by omega⟩)) (Nat.le_trans hn6 hfr8.size)
        clear HOI HMQ HKS2 HMf2 HP6 HO7 HB6 HMs6 hn6 HLN2 HLN HKS HMf Q1 Q2
        gi_region_with_o (refine ⟨trivial, ?_⟩; gi_at_call 52; refine (CallsIn.inRound _ (callsIn_wide.2 HMK.out)).mono ?_; rintro e' w7 ⟨rfl, D7, hms7, hmf7, hfr7⟩)
        all_goals gi_wp2
        all_goals exact TAIL.out _ _ _ hms7 hmf7 hfr7
  clear q3 q4 q5 q6
  have hIB : ∀ i W, Iw11 k w n e lk kk o (.slice (some adz) n c) (.slice Ao n co) lp i W → Boxed W k.s 53 (.slice Ao n co) ∧ Rn W Ao co (ns11 o) := by
    rintro i W ⟨⟨_, _, _, _, _, hP, _⟩, hBW, _⟩
    exact ⟨hP.bs, HRO.out.keep (by rw [HBB.out]; exact hBW)⟩
  refine (back11_in (Iw11 k w n e lk kk o (.slice (some adz) n c) (.slice Ao n co) lp) (Jw11 k w n lk (.slice (some adz) n c) (.slice Ao n co)) (ns11 o) k.s Ao co n k.r 1 (by rw [ns11, List.length_map, HLK.out.len]) (by omega) hIB hY.out _ HI0.out).mono ?_
  clear hY HI0 hIB
  rintro e2 W2 ⟨⟨v2, rfl⟩, h2⟩
  obtain ⟨k1, k2, k3, k4, k5, k6, k7, k8⟩ := id hk
  rcases h2 with hI | hJ
  · obtain ⟨⟨A1, c1, ln, K, D, hP, hO, hln, hms, hmf, hks⟩, hBW, hn2⟩ := hI
    have hend := run_endLoop (P := Try.prog) hP.br (by rw [q1]; simp)
    rw [q2] at hend
    refine ⟨none, _, hend, ?_⟩
    have hlnn : ln ≤ n := by rw [← hln]; exact hks.len HLK.out
    have HLN := Lib.hid hln
    have HFN : Hid ((K.mergeSort fun x y => decide (x ≤ y)) = T) := Lib.hid (by rw [← HT.out]; exact hks.fin HLK.out fun q t hq _ => by omega)
    have hrec : ({ lp with state := .exhausted, pending := none } : Loop) = { lp with state := .exhausted } := by rw [← q2]
    rw [hrec]
    have HP := Lib.hid (hP.putR hk { lp with state := .exhausted })
    have HO := Lib.hid (ownPut11 hO (show k.r < k.n from k8) (.loop { lp with state := .exhausted }))
    have HB4 := Lib.hid (belowPut11 hBW (show k.a ≤ k.r by omega) (.loop { lp with state := .exhausted }))
    have hn4 : k.n ≤ (W2.putObj k.r (.loop { lp with state := .exhausted })).heap.size := by rw [World.putObj_size]; exact hn2
    clear hP hO hBW hn2 hend hrec hln hms hmf hks q1 q2
    generalize ({ lp with state := .exhausted } : Loop) = lq at HP HO HB4 hn4 ⊢
    generalize W2.putObj k.r (.loop lq) = W3 at HP HO HB4 hn4 ⊢
    have hq1 := HP.out.bl.cell
    have hql := HP.out.bl.lt
    dsimp only
    (try gi_wp2)
    go_wp2_with fail
    refine (sort11_v A1 ln c1 K k.n W3 HLN.out HO.out hn4 (by omega)).mono ?_
    rintro e w4 ⟨rfl, ho, hb⟩
    have HP4 := Lib.hid (HP.out.keep hk hb)
    have HB5 := Lib.hid (HB4.out.trans (hb.mono (show k.a ≤ k.n by omega)))
    have HO4 := Lib.hid ho
    have hq4 := HP4.out.bl.cell
    have hql4 := HP4.out.bl.lt
    clear ho hb hq1 hql
    go_wp2_with fail
    refine ⟨by simp, .inl ⟨_, _, rfl, run_takeDeferred HP4.out.bd, ?_⟩⟩
    refine ⟨_, results_tmp rfl _ _ _, A1, c1, ?_, ?_, ?_⟩
    · rw [← HFN.out, List.length_mergeSort, HLN.out]; rfl
    · rw [← HFN.out, List.length_mergeSort, HLN.out, HBB.out]
      exact own_base (ownPut11 HO4.out (show k.d < k.n by omega) _) (by omega)
    · rw [HBB.out]; exact belowPut11 HB5.out (by omega) _
  · obtain ⟨⟨A1, c1, ln, K, lp2, hP, hO, hln, hlnn, hst, hpe, hfn⟩, hBW, hn2⟩ := hJ
    have hend := run_endLoop (P := Try.prog) hP.br (by rw [hst]; simp)
    rw [hpe] at hend
    refine ⟨some (.exit 0), _, hend, ?_⟩
    have HLN := Lib.hid hln
    have HFN : Hid ((K.mergeSort fun x y => decide (x ≤ y)) = T) := Lib.hid (by rw [← HT.out]; exact hfn)
    have HP := Lib.hid (hP.putR hk { lp2 with state := .exhausted, pending := some (.exit 0) })
    have HO := Lib.hid (ownPut11 hO (show k.r < k.n from k8) (.loop { lp2 with state := .exhausted, pending := some (.exit 0) }))
    have HB4 := Lib.hid (belowPut11 hBW (show k.a ≤ k.r by omega) (.loop { lp2 with state := .exhausted, pending := some (.exit 0) }))
    have hn4 : k.n ≤ (W2.putObj k.r (.loop { lp2 with state := .exhausted, pending := some (.exit 0) })).heap.size := by rw [World.putObj_size]; exact hn2
    clear hP hO hBW hn2 hend hln hst hpe hfn q1 q2
    generalize ({ lp2 with state := .exhausted, pending := some (.exit 0) } : Loop) = lq at HP HO HB4 hn4 ⊢
    generalize W2.putObj k.r (.loop lq) = W3 at HP HO HB4 hn4 ⊢
    have hq1 := HP.out.bl.cell
    have hql := HP.out.bl.lt
    dsimp only
    (try gi_wp2)
    go_wp2_with fail
    refine (sort11_v A1 ln c1 K k.n W3 HLN.out HO.out hn4 (by omega)).mono ?_
    rintro e w4 ⟨rfl, ho, hb⟩
    have HP4 := Lib.hid (HP.out.keep hk hb)
    have HB5 := Lib.hid (HB4.out.trans (hb.mono (show k.a ≤ k.n by omega)))
    have HO4 := Lib.hid ho
    have hq4 := HP4.out.bl.cell
    have hql4 := HP4.out.bl.lt
    clear ho hb hq1 hql
    go_wp2_with fail
    refine ⟨by simp, .inl ⟨_, _, rfl, run_takeDeferred HP4.out.bd, ?_⟩⟩
    refine ⟨_, results_tmp rfl _ _ _, A1, c1, ?_, ?_, ?_⟩
    · rw [← HFN.out, List.length_mergeSort, HLN.out]; rfl
    · rw [← HFN.out, List.length_mergeSort, HLN.out, HBB.out]
      exact own_base (ownPut11 HO4.out (show k.d < k.n by omega) _) (by omega)
    · rw [HBB.out]; exact belowPut11 HB5.out (by omega) _
end Go.Proofs.Ytimjnmkfbdijeaa
