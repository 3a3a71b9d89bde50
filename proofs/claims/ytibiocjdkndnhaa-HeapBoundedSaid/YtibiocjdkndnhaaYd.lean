/-
  Layer 15: New and Make, the program's and the reference's.
-/
import Derived.Test.YtibiocjdkndnhaaYe
import Derived.Test.YtibiocjdkndnhaaLq
import Derived.BigQuiet
namespace Go.Proofs.Ytibiocjdkndnhaa
open Go.RowKit
set_option maxRecDepth 100000
set_option linter.unusedSimpArgs false
set_option linter.unusedVariables false

/-- append of one array, as one step of a region that draws its order. -/
theorem step_app15 {w : World} {ops : Array Oper} {o : Oper} {a : Act} {K : Act → World → Prop} {Q : Exit → Act → World → Prop} {E : Prop} (hgd : o.guard = none) (s x : Operand)
    (ho : o.op = .call { callee := .builtin .append, args := #[s, x], argTypes := #[42, 42] })
    (v : Value) (n : Nat) (L : List Value) (hs : a.eval s = v) (hown : w.ownsRow 0 43 1 v n L) (ad : Addr) (u : Value) (hx : a.eval x = .slice (some ad) 1 1) (hu : u.oneCell' = true) (hc : w.cell? ad = some u) (hn : n ≤ 100000)
    (h : ∀ A' c' w', w'.ownsRow 0 43 1 (.slice A' (n + 1) c') (n + 1) (L ++ [u]) → w.grownBy w' v.ownBlock → ((Value.slice A' (n + 1) c').ownBlock = v.ownBlock ∨ (Value.slice A' (n + 1) c').ownBlock = some w.heap.size) → K (a.put o.dst (.slice A' (n + 1) c')) w') :
    if Region.wanted o (yielded ops a.tmps) = true then Oper.wp Try.prog o a w K Q else E := by
  have hw : Region.wanted o (yielded ops a.tmps) = true := by simp [Region.wanted, hgd]
  rw [if_pos hw]
  obtain ⟨A', c', w', hr, h2, h3, h4⟩ := app15 w v n L hown ad u hu hc hn o.type
  unfold Oper.wp execOp
  simp only [ho, resolve, invoke, builtin, Sem.run_bind, Sem.run_pure, Result.andThen_ok, List.map_toArray, List.map_cons, List.map_nil, hs, hx, hr]
  exact h A' c' w' h2 h3 h4
theorem wpList_app15 (w : World) {ops : Array Oper} {rest : List Oper} {o : Oper} {a : Act} {Q : Exit → Act → World → Prop} (hgd : o.guard = none) (s x : Operand)
    (ho : o.op = .call { callee := .builtin .append, args := #[s, x], argTypes := #[42, 42] })
    (v : Value) (n : Nat) (L : List Value) (hs : a.eval s = v) (hown : w.ownsRow 0 43 1 v n L) (ad : Addr) (u : Value) (hx : a.eval x = .slice (some ad) 1 1) (hu : u.oneCell' = true) (hc : w.cell? ad = some u) (hn : n ≤ 100000)
    (h : ∀ A' c' w', w'.ownsRow 0 43 1 (.slice A' (n + 1) c') (n + 1) (L ++ [u]) → w.grownBy w' v.ownBlock → ((Value.slice A' (n + 1) c').ownBlock = v.ownBlock ∨ (Value.slice A' (n + 1) c').ownBlock = some w.heap.size) → wpList Try.prog ops Q rest (a.put o.dst (.slice A' (n + 1) c')) w') :
    wpList Try.prog ops Q (o :: rest) a w := by
  obtain ⟨A', c', w', hr, h2, h3, h4⟩ := app15 w v n L hown ad u hu hc hn o.type
  refine wpList_plain hgd fun K hK => ?_
  unfold Oper.wp
  simp [execOp, ho, resolve, invoke, builtin, hs, hx, hr, Result.andThen]
  refine hK _ _ ?_
  exact h A' c' w' h2 h3 h4

/-! The reference's. -/
theorem rnew_no (x : Int) (w : World) (h : x < 0 ∨ 1024 < x) : Calls Try.prog 8 #[.int .i64 x] w fun e w' => e = .returned (.tuple #[.pointer none, .int .i64 2]) ∧ w' = w := by
  have H := Lib.hid h
  clear h
  by_cases h1 : x < 0
  · go_enter Try.func8, Try.ntmps8
    go_wp2_with fail
    go_ret2
    exact ⟨rfl, rfl⟩
  · have h2 : 1024 < x := by have := H.out; omega
    go_enter Try.func8, Try.ntmps8
    go_wp2_with fail
    go_ret2
    exact ⟨rfl, rfl⟩
theorem rf15_new (w : World) (n : Nat) : ∃ X, Rf15 X (((w.alloc (.cells #[] 2)).alloc (.cells #[.slice (some ⟨w.heap.size, 0, none⟩) 0 0] 43)).alloc (.cells #[.int .i64 n, .slice (some ⟨w.heap.size + 1, 0, none⟩) 1 1] 52)) (w.heap.size + 1 + 1) n [[]] ∧ ∀ j, X j → w.heap.size ≤ j := by
  refine ⟨fun j => w.heap.size ≤ j ∧ j < w.heap.size + 3, ⟨some ⟨w.heap.size + 1, 0, none⟩, 1, ?_, ⟨[w.heap.size], ⟨rfl, ?_, fun k g z hg hz => ?_, by simp⟩, ?_, ?_, fun j hj => ?_⟩, ?_⟩, fun j h => h.1⟩
  · have := World.alloc_heap_new ((w.alloc (.cells #[] 2)).alloc (.cells #[.slice (some ⟨w.heap.size, 0, none⟩) 0 0] 43)) (.cells #[.int .i64 n, .slice (some ⟨w.heap.size + 1, 0, none⟩) 1 1] 52)
    rw [sz15, sz15] at this
    exact this
  · have h := World.ownsRow_lit (base := 0) (size := 1) (e := 43) (w.alloc (.cells #[] 2)) #[.slice (some ⟨w.heap.size, 0, none⟩) 0 0] 1 (Nat.zero_le _) (by unfold maxLen; omega) (by simp)
    rw [sz15] at h
    exact own_below h ((Below.refl _ _).alloc (Nat.le_refl _) _) (Nat.le_refl _)
  · match k, hg, hz with
    | 0, hg, hz =>
      simp at hg hz
      subst hg hz
      have h : Wd15 (w.alloc (.cells #[] 2)) w.heap.size [] := World.alloc_heap_new w _
      exact (h.fr (X := fun _ => False) ((Fr11.refl _ _).alloc _) id).fr (X := fun _ => False) ((Fr11.refl _ _).alloc _) id
  · intro g hg
    rw [List.mem_singleton] at hg
    subst hg
    exact ⟨by omega, by omega⟩
  · intro a ha
    injection ha with ha
    subst ha
    exact ⟨by simp, by simp⟩
  · rw [sz15, sz15, sz15]
    exact hj.2
  · exact ⟨by omega, by omega⟩
theorem rnew_v (n : Nat) (w : World) (h3 : n ≤ 1024) : Calls Try.prog 8 #[.int .i64 n] w fun e w' =>
    ∃ B X, e = .returned (.tuple #[.pointer (some ⟨B, 0, none⟩), .int .i64 0]) ∧ Rf15 X w' B n [[]] ∧ Below w.heap.size w w' ∧ ∀ j, X j → w.heap.size ≤ j := by
  go_enter Try.func8, Try.ntmps8
  go_wp2_with fail
  go_ret2
  obtain ⟨X, h1, h2⟩ := rf15_new w n
  exact ⟨_, X, rfl, h1, (((Below.refl _ w).alloc (Nat.le_refl _) _).alloc (by rw [sz15]; omega) _).alloc (by rw [sz15, sz15]; omega) _, h2⟩
/-- Behind an append to the row. -/
theorem rf15_make {X : Nat → Prop} {w w9 : World} {A A' : Option Addr} {B R c c' g : Nat} {Z : List (List Int)} {G : List Nat} {z : List Int} (hB : w.heap[B]? = some (.cells #[.int .i64 R, .slice A Z.length c] 52 (0, 0)))
    (h : Rw15 w A c Z G) (h1 : ∀ g ∈ G, X g) (h2 : ∀ a, A = some a → X a.block) (h3 : ∀ j, X j → j < w.heap.size) (hX : X B)
    (hf : Fr11 (fun j => some j = (Value.slice A Z.length c).ownBlock) w w9) (hw : Wd15 w9 g z) (hg : w.heap.size ≤ g)
    (ho : w9.ownsRow 0 43 1 (.slice A' (Z.length + 1) c') (Z.length + 1) (cr15 G Z ++ [Value.slice (some ⟨g, 0, none⟩) z.length z.length]))
    (hb : (Value.slice A' (Z.length + 1) c').ownBlock = (Value.slice A Z.length c).ownBlock ∨ ∃ q, w.heap.size ≤ q ∧ (Value.slice A' (Z.length + 1) c').ownBlock = some q) :
    w9.heap[B]? = some (.cells #[.int .i64 R, .slice A Z.length c] 52 (0, 0)) ∧
    ∃ X', Rf15 X' (w9.setCell ⟨B, 1, none⟩ (.slice A' (Z.length + 1) c')) B R (Z ++ [z]) ∧ Fr11 X w (w9.setCell ⟨B, 1, none⟩ (.slice A' (Z.length + 1) c')) ∧ ∀ j, X' j → X j ∨ w.heap.size ≤ j := by
  have hBA : ¬ some B = (Value.slice A Z.length c).ownBlock := fun e => by
    cases A with
    | none => simp [Value.ownBlock] at e
    | some a =>
      obtain ⟨cur, hc⟩ := h.ty rfl
      have e : B = a.block := by simpa [Value.ownBlock] using e
      subst e
      have := hB.symm.trans hc
      simp at this
  have hB9 := (hf.block _ (Array.getElem?_eq_some_iff.1 hB).1 hBA).trans hB
  have hR9 := h.app hf hw hg ho
  have hA9 : ∀ a, A' = some a → X a.block ∨ w.heap.size ≤ a.block := fun a ha => by
    subst ha
    rcases hb with hb | ⟨q, hq, hb⟩
    · cases A with
      | none => simp [Value.ownBlock] at hb
      | some a0 =>
        have e : a.block = a0.block := by simpa [Value.ownBlock] using hb
        rw [e]
        exact .inl (h2 _ rfl)
    · have e : a.block = q := by simpa [Value.ownBlock] using hb
      exact .inr (by omega)
  have hn9 : ∀ a, A' = some a → a.block ≠ B := fun a ha e => by
    obtain ⟨cur, hc⟩ := hR9.ty ha
    rw [e] at hc
    have := hB9.symm.trans hc
    simp at this
  have hs : Fr11 (fun j => j = B) w9 (w9.setCell ⟨B, 1, none⟩ (.slice A' (Z.length + 1) c')) := (Fr11.refl (fun j => j = B) w9).set (p := ⟨B, 1, none⟩) (.inr rfl) _
  have hg9 : ∀ q ∈ G ++ [g], q ≠ B := fun q hq e => by
    obtain ⟨k, hk⟩ := List.getElem?_of_mem hq
    have h1 := (List.getElem?_eq_some_iff.1 hk).1
    have hw := hR9.each _ _ _ hk (List.getElem?_eq_getElem (by rw [← hR9.len]; exact h1))
    rw [e] at hw
    have := hB9.symm.trans hw
    simp at this
  have hlt9 : ∀ q ∈ G ++ [g], q < w9.heap.size := fun q hq => by
    obtain ⟨k, hk⟩ := List.getElem?_of_mem hq
    have h1 := (List.getElem?_eq_some_iff.1 hk).1
    exact (hR9.each _ _ _ hk (List.getElem?_eq_getElem (by rw [← hR9.len]; exact h1))).lt
  refine ⟨hB9, fun j => X j ∨ (w.heap.size ≤ j ∧ j < w9.heap.size), ⟨A', c', ?_, ⟨G ++ [g], hR9.fr hs hg9 hn9, fun q hq => ?_, fun a ha => ?_, fun j hj => ?_⟩, .inl hX⟩, ?_, fun j hj => hj.imp id And.left⟩
  · rw [heap_setCell_same w9 B 1 _ _ _ hB9, List.length_append]
    rfl
  · have := hlt9 q hq
    rcases List.mem_append.1 hq with hq | hq
    · exact .inl (h1 q hq)
    · rw [List.mem_singleton] at hq
      subst hq
      exact .inr ⟨hg, this⟩
  · obtain ⟨cur, hc⟩ := hR9.ty ha
    exact (hA9 a ha).imp id fun h => ⟨h, (Array.getElem?_eq_some_iff.1 hc).1⟩
  · simp
    rcases hj with hj | hj
    · exact Nat.lt_of_lt_of_le (h3 j hj) hf.size
    · exact hj.2
  · refine (hf.mono fun j hj => ?_).set (p := ⟨B, 1, none⟩) (.inr hX) _
    cases A with
    | none => simp [Value.ownBlock] at hj
    | some a =>
      have e : j = a.block := by simpa [Value.ownBlock] using hj
      subst e
      exact h2 _ rfl
theorem mk15_big {R : Nat} {Z : List (List Int)} {n : Int} (h : n < 0 ∨ 1024 < n) : mkE15 R Z n = 2 := by rw [mkE15, if_pos h]
theorem mk15_full {R : Nat} {Z : List (List Int)} {n : Int} (h : ¬ (n < 0 ∨ 1024 < n)) (h2 : (R : Int) < us15 Z + n) : mkE15 R Z n = 4 := by rw [mkE15, if_neg h, if_pos h2]
theorem mk15_ok {R : Nat} {Z : List (List Int)} {n : Int} (h : ¬ (n < 0 ∨ 1024 < n)) (h2 : ¬ (R : Int) < us15 Z + n) : mkE15 R Z n = 0 := by rw [mkE15, if_neg h, if_neg h2]
set_option maxHeartbeats 4000000 in
theorem rmake_v (X : Nat → Prop) (B R : Nat) (Z : List (List Int)) (x : Int) (w : World) (h : Rf15 X w B R Z) (hl : Z.length ≤ 99999) (hu : us15 Z ≤ 100000) (hR : R ≤ 1024) :
    Calls Try.prog 10 #[.pointer (some ⟨B, 0, none⟩), .int .i64 x] w fun e w' => e = .returned (.tuple #[.int .i64 (mkN15 R Z x), .int .i64 (mkE15 R Z x)]) ∧ ∃ X', Rf15 X' w' B R (mkZ15 R Z x) ∧ Fr11 X w w' ∧ ∀ j, X' j → X j ∨ w.heap.size ≤ j := by
  by_cases h0 : x < 0 ∨ 1024 < x
  · have HE := Lib.hid (mk15_big (R := R) (Z := Z) h0)
    have H := Lib.hid h
    have HG : Hid (Rf15 X w B R (mkZ15 R Z x)) := by rw [Hid, mkZ15, HE.out, if_neg (by decide)]; exact h
    have HN : Hid (mkN15 R Z x = 0) := by rw [Hid, mkN15, HE.out, if_neg (by decide)]
    clear h
    by_cases h1 : x < 0
    · clear h0
      go_enter Try.func10, Try.ntmps10
      go_wp2_with fail
      go_ret2
      rw [HE.out, HN.out]
      exact ⟨rfl, X, HG.out, Fr11.refl _ _, fun _ => .inl⟩
    · have h2 : 1024 < x := by omega
      clear h0
      go_enter Try.func10, Try.ntmps10
      go_wp2_with fail
      go_ret2
      rw [HE.out, HN.out]
      exact ⟨rfl, X, HG.out, Fr11.refl _ _, fun _ => .inl⟩
  · have H0 := Lib.hid h0
    obtain ⟨n, rfl⟩ : ∃ n : Nat, x = (n : Int) := ⟨x.toNat, by omega⟩
    have hn1 : n ≤ 1024 := by omega
    have HU := Lib.hid (rused_v X B R Z w.drew (h.keep (below_draws (Below.refl _ _) 1)) (by omega) (by omega))
    have H := Lib.hid h
    obtain ⟨A, c, hB, hw, hX⟩ := h
    have c0 : w.cell? ⟨B, 0, none⟩ = some (.int .i64 R) := by simp [World.cell?, hB]
    have c1 : w.cell? ⟨B, 1, none⟩ = some (.slice A Z.length c) := by simp [World.cell?, hB]
    have HB := Lib.hid hB
    have HWT := Lib.hid hw
    obtain ⟨zl, hzl⟩ : ∃ zl, Z.length = zl := ⟨_, rfl⟩
    obtain ⟨u, hus⟩ : ∃ u, us15 Z = u := ⟨_, rfl⟩
    have HZL := Lib.hid hzl
    have HUS := Lib.hid hus
    rw [hzl] at c1 hl
    rw [hus] at HU hu
    have hwr : IntKind.i64.wrap ((u : Int) + n) = u + n := by rw [IntKind.wrap_i64]; omega
    clear hzl hus hB hw h0
    go_enter Try.func10, Try.ntmps10
    go_upto_region 3 with (fail)
    refine wp_region_held_drew (S := fun w' => Hid (w' = w.drew) ∧ w'.cell? ⟨B, 0, none⟩ = some (.int .i64 R) ∧ w'.cell? ⟨B, 1, none⟩ = some (.slice A zl c)) (by kernel_rfl) (⟨Lib.hid rfl, c0, c1⟩) (fun hHeld => ?_)
    refine wpAnyH_take (i := 0) (v := ?_) rfl (by kernel_rfl) (by kernel_rfl) (by kernel_rfl) (fun _ _ _ h => h) (Or.inl ⟨by rfl, ?_⟩) (by assumption) ?_
    rotate_left 1
    · intro w _; go_simp; try with_reducible rfl
    try simp only [Act.put, List.getElem_toArray, List.getElem_cons_zero, List.getElem_cons_succ, List.setIfInBounds_toArray, List.set_cons_zero, List.set_cons_succ]
    refine wpAnyH_take (i := 2) (v := ?_) rfl (by kernel_rfl) (by kernel_rfl) (by kernel_rfl) (fun _ _ _ h => h) (Or.inl ⟨by rfl, ?_⟩) (by assumption) ?_
    rotate_left 1
    · intro w _; go_simp; try with_reducible rfl
    try simp only [Act.put, List.getElem_toArray, List.getElem_cons_zero, List.getElem_cons_succ, List.setIfInBounds_toArray, List.set_cons_zero, List.set_cons_succ]
    refine wpAnyH_take (i := 4) (v := ?_) rfl (by kernel_rfl) (by kernel_rfl) (by kernel_rfl) (fun _ _ _ h => h) (Or.inl ⟨by rfl, ?_⟩) (by assumption) ?_
    rotate_left 1
    · intro w _; go_simp; try with_reducible rfl
    try simp only [Act.put, List.getElem_toArray, List.getElem_cons_zero, List.getElem_cons_succ, List.setIfInBounds_toArray, List.set_cons_zero, List.set_cons_succ]
    refine wpAnyH_take (i := 5) (v := ?_) rfl (by kernel_rfl) (by kernel_rfl) (by kernel_rfl) (fun _ _ _ h => h) (Or.inl ⟨by rfl, ?_⟩) (by assumption) ?_
    rotate_left 1
    · intro w _; go_simp; try with_reducible rfl
    try simp only [Act.put, List.getElem_toArray, List.getElem_cons_zero, List.getElem_cons_succ, List.setIfInBounds_toArray, List.set_cons_zero, List.set_cons_succ]
    refine wpAnyH_take (i := 6) (v := ?_) rfl (by kernel_rfl) (by kernel_rfl) (by kernel_rfl) (fun _ _ _ h => h) (Or.inl ⟨by rfl, ?_⟩) (by assumption) ?_
    rotate_left 1
    · intro w _; go_simp; try with_reducible rfl
    try simp only [Act.put, List.getElem_toArray, List.getElem_cons_zero, List.getElem_cons_succ, List.setIfInBounds_toArray, List.set_cons_zero, List.set_cons_succ]
    refine wpAnyH_take (i := 7) (v := ?_) rfl (by kernel_rfl) (by kernel_rfl) (by kernel_rfl) (fun _ _ _ h => h) (Or.inl ⟨by rfl, ?_⟩) (by assumption) ?_
    rotate_left 1
    · intro w hSw; (try dsimp only at hSw); obtain ⟨-, s1, s2⟩ := hSw; go_simp; try with_reducible rfl
    try simp only [Act.put, List.getElem_toArray, List.getElem_cons_zero, List.getElem_cons_succ, List.setIfInBounds_toArray, List.set_cons_zero, List.set_cons_succ]
    refine wpAnyH_ready (rs := [1]) (by kernel_rfl) (by simp) ?_
    refine AllReadyH.cons rfl (fun K hK => ?_) AllReadyH.nil
    go_simp
    refine HU.out.mono ?_
    rintro e w1 ⟨rfl, rfl⟩
    go_wp2_with fail
    refine hK.out _ _ (⟨Lib.hid rfl, c0, c1⟩) (fun hHeld => ?_)
    clear hK K
    try simp only [Act.put, List.getElem_toArray, List.getElem_cons_zero, List.getElem_cons_succ, List.setIfInBounds_toArray, List.set_cons_zero, List.set_cons_succ]
    refine wpAnyH_take (i := 3) (v := ?_) rfl (by kernel_rfl) (by kernel_rfl) (by kernel_rfl) (fun _ _ _ h => h) (Or.inl ⟨by rfl, ?_⟩) (by assumption) ?_
    rotate_left 1
    · intro w _; go_simp; try with_reducible rfl
    try simp only [Act.put, List.getElem_toArray, List.getElem_cons_zero, List.getElem_cons_succ, List.setIfInBounds_toArray, List.set_cons_zero, List.set_cons_succ]
    refine wpAnyH_take (i := 8) (v := ?_) rfl (by kernel_rfl) (by kernel_rfl) (by kernel_rfl) (fun _ _ _ h => h) (Or.inl ⟨by rfl, ?_⟩) (by assumption) ?_
    rotate_left 1
    · intro w _; go_simp; try with_reducible rfl
    try simp only [Act.put, List.getElem_toArray, List.getElem_cons_zero, List.getElem_cons_succ, List.setIfInBounds_toArray, List.set_cons_zero, List.set_cons_succ]
    refine wpAnyH_done (by kernel_rfl) ?_ _
    clear hHeld
    by_cases h1 : (R : Int) < u + n
    · have HE := Lib.hid (mk15_full (R := R) (Z := Z) (n := n) H0.out (by rw [HUS.out]; exact h1))
      have HG : Hid (mkZ15 R Z n = Z) := by rw [Hid, mkZ15, HE.out, if_neg (by decide)]
      have HN : Hid (mkN15 R Z n = 0) := by rw [Hid, mkN15, HE.out, if_neg (by decide)]
      go_wp2_with fail
      go_ret2
      rw [HE.out, HN.out, HG.out]
      exact ⟨rfl, X, H.out.keep (below_draws (Below.refl _ _) 1), (Fr11.refl _ _).drewN 1, fun _ => .inl⟩
    · have HE := Lib.hid (mk15_ok (R := R) (Z := Z) (n := n) H0.out (by rw [HUS.out]; exact h1))
      have HG : Hid (mkZ15 R Z n = Z ++ [List.replicate n 0]) := by rw [Hid, mkZ15, HE.out, if_pos rfl]; rfl
      have HN : Hid (mkN15 R Z n = zl) := by rw [Hid, mkN15, HE.out, if_pos rfl, HZL.out]
      have hmk := make15 n (by omega)
      obtain ⟨G, hG, hG1, hG2, hG3⟩ := HWT.out
      have HGR := Lib.hid hG
      have HG1 := Lib.hid hG1
      have HG2 := Lib.hid hG2
      have HG3 := Lib.hid hG3
      have hwz : IntKind.i64.wrap (((zl + 1 : Nat) : Int) - 1) = zl := by rw [IntKind.wrap_i64]; omega
      clear hG hG1 hG2 hG3
      go_upto_region 5 with (fail)
      refine wp_region_L [11] (S := fun w' => w'.cell? ⟨B, 1, none⟩ = some (.slice A zl c)) (by kernel_rfl) (c1) (fun hHeld => ?_)
      refine wpL_reckon (i := 0) (v := ?_) rfl (by kernel_rfl) (fun _ _ _ h => h) (Or.inl ⟨by rfl, ?_⟩) (Or.inr (by assumption)) ?_
      rotate_left 1
      · intro w _; go_simp; try with_reducible rfl
      try simp only [Act.put, List.getElem_toArray, List.getElem_cons_zero, List.getElem_cons_succ, List.setIfInBounds_toArray, List.set_cons_zero, List.set_cons_succ]
      refine wpL_reckon (i := 1) (v := ?_) rfl (by kernel_rfl) (fun _ _ _ h => h) (Or.inl ⟨by rfl, ?_⟩) (Or.inr (by assumption)) ?_
      rotate_left 1
      · intro w _; go_simp; try with_reducible rfl
      try simp only [Act.put, List.getElem_toArray, List.getElem_cons_zero, List.getElem_cons_succ, List.setIfInBounds_toArray, List.set_cons_zero, List.set_cons_succ]
      refine wpL_reckon (i := 2) (v := ?_) rfl (by kernel_rfl) (fun _ _ _ h => h) (Or.inl ⟨by rfl, ?_⟩) (Or.inr (by assumption)) ?_
      rotate_left 1
      · intro w _; go_simp; try with_reducible rfl
      try simp only [Act.put, List.getElem_toArray, List.getElem_cons_zero, List.getElem_cons_succ, List.setIfInBounds_toArray, List.set_cons_zero, List.set_cons_succ]
      refine wpL_reckon (i := 3) (v := ?_) rfl (by kernel_rfl) (fun _ _ _ h => h) (Or.inl ⟨by rfl, ?_⟩) (Or.inr (by assumption)) ?_
      rotate_left 1
      · intro w _; go_simp; try with_reducible rfl
      try simp only [Act.put, List.getElem_toArray, List.getElem_cons_zero, List.getElem_cons_succ, List.setIfInBounds_toArray, List.set_cons_zero, List.set_cons_succ]
      refine wpL_take (i := 4) (v := ?_) rfl (by kernel_rfl) (fun _ _ _ h => h) (Or.inl ⟨by rfl, ?_⟩) (by assumption) ?_
      rotate_left 1
      · intro w hSw; (try dsimp only at hSw); obtain s1 := hSw; go_simp; try with_reducible rfl
      try simp only [Act.put, List.getElem_toArray, List.getElem_cons_zero, List.getElem_cons_succ, List.setIfInBounds_toArray, List.set_cons_zero, List.set_cons_succ]
      refine wpL_reckon (i := 5) (v := ?_) rfl (by kernel_rfl) (fun _ _ _ h => h) (Or.inl ⟨by rfl, ?_⟩) (Or.inr (by assumption)) ?_
      rotate_left 1
      · intro w _; go_simp; try with_reducible rfl
      try simp only [Act.put, List.getElem_toArray, List.getElem_cons_zero, List.getElem_cons_succ, List.setIfInBounds_toArray, List.set_cons_zero, List.set_cons_succ]
      refine wpL_ready (rs := [6]) (by kernel_rfl) (by simp) ?_
      refine AllL.cons rfl (fun K hK => ?_) AllL.nil
      go_simp
      have HF1 : Hid (Fr11 (fun _ => False) w (w.alloc (.cells (Array.replicate n (.int .i64 0)) 2)).drew.drew) := Lib.hid (((Fr11.refl _ _).alloc _).drewN 2)
      have HW1 : Hid (Wd15 (w.alloc (.cells (Array.replicate n (.int .i64 0)) 2)).drew.drew w.heap.size (List.replicate n 0)) := Lib.hid (wd15_new w n)
      have hs1 : (w.alloc (.cells (Array.replicate n (.int .i64 0)) 2)).drew.drew.heap.size = w.heap.size + 1 := sz15 _ _
      have c1a : (w.alloc (.cells (Array.replicate n (.int .i64 0)) 2)).drew.drew.cell? ⟨B, 1, none⟩ = some (.slice A zl c) := (World.cell?_of_block (HF1.out.block _ (cell_lt c1) id)).trans c1
      have HP1 : Hid (w.heap.size ≤ w.heap.size) := Lib.hid (Nat.le_refl _)
      generalize (w.alloc (.cells (Array.replicate n (.int .i64 0)) 2)).drew.drew = wa at HF1 HW1 c1a hs1 ⊢
      have HS1 : Hid (w.heap.size ≤ wa.heap.size) := Lib.hid (by omega)
      clear hs1
      generalize hP1 : (w.heap.size : Nat) = P1 at HW1 ⊢
      have HP1 : Hid (w.heap.size ≤ P1) := Lib.hid (by omega)
      clear hP1
      refine hK.out _ _ (c1a) (fun hHeld => ?_)
      clear hK K
      try simp only [Act.put, List.getElem_toArray, List.getElem_cons_zero, List.getElem_cons_succ, List.setIfInBounds_toArray, List.set_cons_zero, List.set_cons_succ]
      refine wpL_ready (rs := [7]) (by kernel_rfl) (by simp) ?_
      refine AllL.cons rfl (fun K hK => ?_) AllL.nil
      go_simp
      have HF2 : Hid (Fr11 (fun _ => False) w (wa.alloc (.cells #[.slice (some ⟨P1, 0, none⟩) n n] 43))) := Lib.hid (HF1.out.alloc _)
      have HW2 : Hid (Wd15 (wa.alloc (.cells #[.slice (some ⟨P1, 0, none⟩) n n] 43)) P1 (List.replicate n 0)) := Lib.hid (HW1.out.fr ((Fr11.refl (fun _ => False) _).alloc _) id)
      have c1b : (wa.alloc (.cells #[.slice (some ⟨P1, 0, none⟩) n n] 43)).cell? ⟨B, 1, none⟩ = some (.slice A zl c) := (World.cell?_of_block (HF2.out.block _ (cell_lt c1) id)).trans c1
      have hc2 : (wa.alloc (.cells #[.slice (some ⟨P1, 0, none⟩) n n] 43)).cell? ⟨wa.heap.size, 0, none⟩ = some (.slice (some ⟨P1, 0, none⟩) n n) := by simp [go_sem]
      have HS2 : Hid (w.heap.size ≤ (wa.alloc (.cells #[.slice (some ⟨P1, 0, none⟩) n n] 43)).heap.size) := Lib.hid (by rw [sz15]; have := HS1.out; omega)
      generalize wa.alloc (.cells #[.slice (some ⟨P1, 0, none⟩) n n] 43) = wb at HF2 HW2 c1b hc2 HS2 ⊢
      generalize wa.heap.size = P2 at hc2 ⊢
      clear HF1 HW1 c1a HS1
      refine hK.out _ _ (c1b) (fun hHeld => ?_)
      clear hK K
      try simp only [Act.put, List.getElem_toArray, List.getElem_cons_zero, List.getElem_cons_succ, List.setIfInBounds_toArray, List.set_cons_zero, List.set_cons_succ]
      refine wpL_ready (rs := [8]) (by kernel_rfl) (by simp) ?_
      refine AllL.cons rfl (fun K hK => ?_) AllL.nil
      have HO2 := Lib.hid ((HGR.out.fr HF2.out (fun _ _ => id) (fun _ _ => id)).row)
      rw [HZL.out] at HO2
      refine step_app15 rfl (.tmp 25) (.tmp 28) rfl (.slice A zl c) zl (cr15 G Z) rfl HO2.out ⟨P2, 0, none⟩ _ rfl rfl hc2 (by omega) ?_
      intro A9 c9 w9 ho9 hg9 hb9
      rw [← HZL.out] at ho9 hg9 hb9
      have hown : ∀ j, some j = (Value.slice A Z.length c).ownBlock → j < w.heap.size := fun j hj => by
        cases A with
        | none => simp [Value.ownBlock] at hj
        | some a =>
          have e : j = a.block := by simpa [Value.ownBlock] using hj
          subst e
          exact HG3.out _ (HG2.out a rfl)
      have hf9 : Fr11 (fun j => some j = (Value.slice A Z.length c).ownBlock) w w9 := (HF2.out.mono fun _ => False.elim).trans (Fr11.of_grown hg9 fun j hj => hj) fun _ _ => id
      have hw9 : Wd15 w9 P1 (List.replicate n 0) := HW2.out.fr (Fr11.of_grown (X := fun j => some j = (Value.slice A Z.length c).ownBlock) hg9 fun j hj => hj) (fun e => by have := hown _ e; have := HP1.out; omega)
      obtain ⟨hB9, hend⟩ := rf15_make (z := List.replicate n 0) HB.out HGR.out HG1.out HG2.out HG3.out hX hf9 hw9 HP1.out (by rw [List.length_replicate]; exact ho9) (hb9.imp id fun h => ⟨_, HS2.out, h⟩)
      have HEND := Lib.hid hend
      rw [HZL.out] at HEND hB9
      have c1c : w9.cell? ⟨B, 1, none⟩ = some (.slice A zl c) := by simp [World.cell?, hB9]
      have hz9 : w9.frozen? ⟨B, 1, none⟩ = false := frozen_of_row w9 B 1 _ _ hB9
      clear HF2 HW2 c1b hc2 HS2 HO2 ho9 hg9 hb9 hown hf9 hw9 hB9 hend
      refine hK.out _ _ (c1c) (fun hHeld => ?_)
      clear hK K
      try simp only [Act.put, List.getElem_toArray, List.getElem_cons_zero, List.getElem_cons_succ, List.setIfInBounds_toArray, List.set_cons_zero, List.set_cons_succ]
      refine wpL_reckon (i := 9) (v := ?_) rfl (by kernel_rfl) (fun _ _ _ h => h) (Or.inl ⟨by rfl, ?_⟩) (Or.inr (by assumption)) ?_
      rotate_left 1
      · intro w _; go_simp; try with_reducible rfl
      try simp only [Act.put, List.getElem_toArray, List.getElem_cons_zero, List.getElem_cons_succ, List.setIfInBounds_toArray, List.set_cons_zero, List.set_cons_succ]
      refine wpL_reckon (i := 10) (v := ?_) rfl (by kernel_rfl) (fun _ _ _ h => h) (Or.inl ⟨by rfl, ?_⟩) (Or.inr (by assumption)) ?_
      rotate_left 1
      · intro w _; go_simp; try with_reducible rfl
      try simp only [Act.put, List.getElem_toArray, List.getElem_cons_zero, List.getElem_cons_succ, List.setIfInBounds_toArray, List.set_cons_zero, List.set_cons_succ]
      refine wpL_ready (rs := [11]) (by kernel_rfl) (by simp) ?_
      refine AllL.late rfl (by kernel_rfl) (fun K hK => ?_) AllL.nil
      go_simp
      refine hK.out _ _ ?_
      clear hK K
      try simp only [Act.put, List.getElem_toArray, List.getElem_cons_zero, List.getElem_cons_succ, List.setIfInBounds_toArray, List.set_cons_zero, List.set_cons_succ]
      refine wpL_done (by kernel_rfl) ?_ _
      go_wp2_with fail
      go_ret2
      rw [HE.out, HN.out, HG.out]
      exact ⟨rfl, HEND.out⟩
end Go.Proofs.Ytibiocjdkndnhaa
