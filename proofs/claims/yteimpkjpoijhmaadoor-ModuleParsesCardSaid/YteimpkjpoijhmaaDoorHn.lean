/-
  Layer 7, package method: its fields, and what its reader's number answers.
-/
import Derived.Test.YteimpkjpoijhmaaDoorLk
namespace Go.Proofs.YteimpkjpoijhmaaDoor
open Go.RowKit
set_option maxRecDepth 100000
set_option linter.unusedSimpArgs false
set_option linter.unusedVariables false

/-- Three numbers in block B (a field). -/
def T3 (w : World) (B : Nat) (x y z : Int) : Prop := B < w.heap.size ∧ w.cell? ⟨B, 0, none⟩ = some (.int .i64 x) ∧ w.cell? ⟨B, 1, none⟩ = some (.int .i64 y) ∧ w.cell? ⟨B, 2, none⟩ = some (.int .i64 z)
theorem T3.keep {w w' : World} {B : Nat} {x y z : Int} (h : T3 w B x y z) (hb : Below w.heap.size w w') : T3 w' B x y z := by
  obtain ⟨h1, h2, h3, h4⟩ := h
  obtain ⟨hc, hf⟩ := bcell hb
  exact ⟨Nat.lt_of_lt_of_le h1 hb.size, (hc _ _ h1).trans h2, (hc _ _ h1).trans h3, (hc _ _ h1).trans h4⟩
theorem T3.new (w : World) (x y z : Int) (t : Nat) : T3 (w.alloc (.cells #[.int .i64 x, .int .i64 y, .int .i64 z] t)) w.heap.size x y z := by
  refine ⟨by simp, ?_, ?_, ?_⟩ <;> simp [go_sem]
abbrev fT3 (B : Nat) (x y z : Int) : Fct := ⟨fun w => T3 w B x y z, fun _ _ h hb => h.keep hb⟩
/-- The reader in block B. -/
def R3 (w : World) (B : Nat) (A : Option Addr) (c n : Nat) (p e : Int) : Prop := B < w.heap.size ∧ w.cell? ⟨B, 0, none⟩ = some (.slice A n c) ∧ w.cell? ⟨B, 1, none⟩ = some (.int .i64 p) ∧ w.cell? ⟨B, 2, none⟩ = some (.int .i64 e) ∧
  w.frozen? ⟨B, 0, none⟩ = false ∧ w.frozen? ⟨B, 1, none⟩ = false ∧ w.frozen? ⟨B, 2, none⟩ = false
section
variable {w w' : World} {B : Nat} {A : Option Addr} {c n : Nat} {p e : Int}
theorem R3.keep (h : R3 w B A c n p e) (hb : Below w.heap.size w w') : R3 w' B A c n p e := by
  obtain ⟨h1, h2, h3, h4, h5, h6, h7⟩ := h
  obtain ⟨hc, hf⟩ := bcell hb
  exact ⟨Nat.lt_of_lt_of_le h1 hb.size, (hc _ _ h1).trans h2, (hc _ _ h1).trans h3, (hc _ _ h1).trans h4, (hf _ _ h1).trans h5, (hf _ _ h1).trans h6, (hf _ _ h1).trans h7⟩
theorem R3.set1 (h : R3 w B A c n p e) (q : Int) : R3 (w.setCell ⟨B, 1, none⟩ (.int .i64 q)) B A c n q e := by
  obtain ⟨h1, h2, h3, h4, h5, h6, h7⟩ := h
  refine ⟨by simpa using h1, ?_, ?_, ?_, ?_, ?_, ?_⟩ <;> simp [go_sem, h2, h3, h4, h5, h6, h7]
theorem R3.set2 (h : R3 w B A c n p e) (q : Int) : R3 (w.setCell ⟨B, 2, none⟩ (.int .i64 q)) B A c n p q := by
  obtain ⟨h1, h2, h3, h4, h5, h6, h7⟩ := h
  refine ⟨by simpa using h1, ?_, ?_, ?_, ?_, ?_, ?_⟩ <;> simp [go_sem, h2, h3, h4, h5, h6, h7]
theorem R3.other (h : R3 w B A c n p e) {q : Addr} (hp : q.block ≠ B) (v : Value) : R3 (w.setCell q v) B A c n p e := by
  obtain ⟨h1, h2, h3, h4, h5, h6, h7⟩ := h
  have ne : ∀ i, q ≠ (⟨B, i, none⟩ : Addr) := fun i e => hp (by rw [e])
  refine ⟨by simpa using h1, ?_, ?_, ?_, ?_, ?_, ?_⟩
  · rw [World.cell?_setCell_other _ _ _ _ (ne 0)]; exact h2
  · rw [World.cell?_setCell_other _ _ _ _ (ne 1)]; exact h3
  · rw [World.cell?_setCell_other _ _ _ _ (ne 2)]; exact h4
  · simpa using h5
  · simpa using h6
  · simpa using h7
theorem R3.new (w : World) (A : Option Addr) (c n : Nat) (p e : Int) (t : Nat) : R3 (w.alloc (.cells #[.slice A n c, .int .i64 p, .int .i64 e] t)) w.heap.size A c n p e := by
  refine ⟨by simp, ?_, ?_, ?_, ?_, ?_, ?_⟩ <;> simp [go_sem]
end
abbrev fR3 (B : Nat) (A : Option Addr) (c n : Nat) (p e : Int) : Fct := ⟨fun w => R3 w B A c n p e, fun _ _ h hb => h.keep hb⟩
theorem g7_of {w w' : World} (h : Below w.heap.size w w') (row : Option Nat) : w.grownBy w' row := ⟨h.os, h.tape, h.output, h.size, fun i hi _ => h.block i hi⟩
theorem g7_set {w w1 : World} {row : Option Nat} (h : w.grownBy w1 row) {p : Addr} (hp : w.heap.size ≤ p.block ∨ row = some p.block) (v : Value) : w.grownBy (w1.setCell p v) row := by
  have hb := (Below.refl p.block w1).setCell (Nat.le_refl _) v
  refine ⟨hb.os.trans h.os, hb.tape.trans h.tape, hb.output.trans h.output, Nat.le_trans h.size hb.size, fun i hi hne => (Below.heap_setCell w1 p v i ?_).trans (h.block i hi hne)⟩
  rintro rfl
  rcases hp with hp | hp
  · omega
  · exact hne hp.symm
theorem g7_on {w w1 w2 : World} {row : Option Nat} (h : w.grownBy w1 row) (hb : Below w1.heap.size w1 w2) : w.grownBy w2 row := h.trans (g7_of hb row)
/-- A field as a value. -/
abbrev fv (x y z : Int) : Value := .agg #[.int .i64 x, .int .i64 y, .int .i64 z]
theorem fmay_v (x lo hi v : Int) (w : World) : Calls Tryd.prog 88 #[fv x lo hi, .int .i64 v] w fun e w' => e = .returned (.bool (decide (lo ≤ v) && decide (v ≤ hi))) ∧ Below w.heap.size w w' := by
  by_cases h : lo ≤ v
  · rw [decide_eq_true h, Bool.true_and]
    go_enter Tryd.func88, Tryd.ntmps88
    go_wp2_with fail
    go_ret
    exact ⟨rfl, new1⟩
  · rw [decide_eq_false h, Bool.false_and]
    go_enter Tryd.func88, Tryd.ntmps88
    go_wp2_with fail
    go_ret
    exact ⟨rfl, new1⟩
theorem count_v (z : Int) (w : World) : Calls Tryd.prog 90 #[.int .i64 z] w fun e w' => e = .returned (fv 1 0 z) ∧ Below w.heap.size w w' := by
  go_enter Tryd.func90, Tryd.ntmps90
  go_wp2_with fail
  exact bodyPost_ret (v := fv 1 0 z) (by simp [results, Tryd.results90, go_sem]) rfl ⟨rfl, new1⟩
theorem other_v (z : Int) (w : World) (h0 : 0 ≤ z) (h1 : z ≤ 9223372036854775807) : Calls Tryd.prog 94 #[.int .i64 z] w fun e w' => e = .returned (fv 1 0 (16 - z)) ∧ Below w.heap.size w w' := by
  have HT := Lib.hid ((T3.new w 0 0 0 95))
  go_enter Tryd.func94, Tryd.ntmps94
  go_wp2_with fail
  refine (count_v _ _).mono ?_
  rintro e w1 ⟨rfl, hb1⟩
  have HB1 := Lib.hid (below_on (new1 (w := w)) hb1)
  obtain ⟨b0, c0, c1, c2⟩ := HT.out.keep hb1
  have f0 := ((bcell hb1).2 w.heap.size 0 (by simp)).trans (show (w.alloc (.cells #[.int .i64 0, .int .i64 0, .int .i64 0] 95)).frozen? ⟨w.heap.size, 0, none⟩ = false by simp [go_sem])
  have f1 := ((bcell hb1).2 w.heap.size 1 (by simp)).trans (show (w.alloc (.cells #[.int .i64 0, .int .i64 0, .int .i64 0] 95)).frozen? ⟨w.heap.size, 1, none⟩ = false by simp [go_sem])
  have f2 := ((bcell hb1).2 w.heap.size 2 (by simp)).trans (show (w.alloc (.cells #[.int .i64 0, .int .i64 0, .int .i64 0] 95)).frozen? ⟨w.heap.size, 2, none⟩ = false by simp [go_sem])
  clear hb1 HT
  go_wp2_with fail
  exact bodyPost_ret (v := fv 1 0 (16 - z)) (by simp [results, Tryd.results94, go_sem, c0, c1, c2]) rfl ⟨rfl, ((HB1.out.setCell (p := ⟨w.heap.size, 0, none⟩) (Nat.le_refl _) _).setCell (p := ⟨w.heap.size, 1, none⟩) (Nat.le_refl _) _).setCell (p := ⟨w.heap.size, 2, none⟩) (Nat.le_refl _) _⟩
theorem flag_v (q : Bool) (w : World) : Calls Tryd.prog 95 #[.bool q] w fun e w' => e = .returned (.int .i64 (fl q)) ∧ w = w' := by
  cases q with
  | true =>
    go_enter Tryd.func95, Tryd.ntmps95
    go_wp2_with fail
    go_ret
    exact ⟨rfl, rfl⟩
  | false =>
    go_enter Tryd.func95, Tryd.ntmps95
    go_wp2_with fail
    go_ret
    exact ⟨rfl, rfl⟩
theorem num7_err (B : Nat) (A : Option Addr) (c n : Nat) (W lo hi at_ e0 : Int) (w : World) (h : R3 w B A c n at_ e0) (h0 : e0 ≠ 0) : Calls Tryd.prog 118 #[.pointer (some ⟨B, 0, none⟩), fv W lo hi] w fun e w' => e = .returned (.int .i64 0) ∧ Below w.heap.size w w' := by
  have he : (e0 != 0) = true := by simpa using h0
  obtain ⟨b0, s0, s1, s2, z0, z1, z2⟩ := h.keep (new1 (a := .cells #[.int .i64 W, .int .i64 lo, .int .i64 hi] 95))
  clear h h0
  go_enter Tryd.func118, Tryd.ntmps118
  go_wp2_with fail
  go_ret
  exact ⟨rfl, new1⟩
set_option maxHeartbeats 1000000 in
theorem num7_bad (B : Nat) (A : Option Addr) (c n : Nat) (l : List Int) (W lo hi at_ V N E : Int) (w : World) (hr : Rd w A c l) (hn : l.length = n) (h : R3 w B A c n at_ 0) (hV : getV l at_ W = V) (hN : getN l at_ W = N) (hE : getE l at_ W = E) (h0 : E ≠ 0) : Calls Tryd.prog 118 #[.pointer (some ⟨B, 0, none⟩), fv W lo hi] w fun e w' => e = .returned (.int .i64 0) ∧ w.grownBy w' (some B) ∧ R3 w' B A c n at_ E := by
  subst hn
  have HG := fun w hr => Lib.hid (get_any A c l at_ W w hr)
  rw [hV, hN, hE] at HG
  have S0 := Lib.hid ((((Sx.start w).add (fR A c l) hr).add (fR3 B A c l.length at_ 0) h).mk1 (.cells #[.int .i64 W, .int .i64 lo, .int .i64 hi] 95) |>.add (fT3 w.heap.size W lo hi) (T3.new w W lo hi 95))
  clear hV hN hE hr
  obtain ⟨b0, s0, s1, s2, z0, z1, z2⟩ := h.keep (new1 (a := .cells #[.int .i64 W, .int .i64 lo, .int .i64 hi] 95))
  clear h
  go_enter Tryd.func118, Tryd.ntmps118
  go_upto_region 3 with (fail)
  clear b0 s0 s1 s2 z0 z1 z2
  refine wp_region_held_drew (S := fun w' => Hid (Sx w w' [fT3 w.heap.size W lo hi, fR3 B A c l.length at_ 0, fR A c l])) (by kernel_rfl) (Hsx.drew S0) (fun hHeld => ?_)
  refine wpAnyH_take (i := 0) (v := ?_) rfl (by kernel_rfl) (by kernel_rfl) (by kernel_rfl) (fun _ _ _ h => h) (Or.inl ⟨by rfl, ?_⟩) (by assumption) ?_
  rotate_left 1
  · intro w _; go_simp; try with_reducible rfl
  try simp only [Act.put, List.getElem_toArray, List.getElem_cons_zero, List.getElem_cons_succ, List.setIfInBounds_toArray, List.set_cons_zero, List.set_cons_succ]
  refine wpAnyH_take (i := 1) (v := ?_) rfl (by kernel_rfl) (by kernel_rfl) (by kernel_rfl) (fun _ _ _ h => h) (Or.inl ⟨by rfl, ?_⟩) (by assumption) ?_
  rotate_left 1
  · intro w _; go_simp; try with_reducible rfl
  try simp only [Act.put, List.getElem_toArray, List.getElem_cons_zero, List.getElem_cons_succ, List.setIfInBounds_toArray, List.set_cons_zero, List.set_cons_succ]
  refine wpAnyH_take (i := 2) (v := ?_) rfl (by kernel_rfl) (by kernel_rfl) (by kernel_rfl) (fun _ _ _ h => h) (Or.inl ⟨by rfl, ?_⟩) (by assumption) ?_
  rotate_left 1
  · intro w _; go_simp; try with_reducible rfl
  try simp only [Act.put, List.getElem_toArray, List.getElem_cons_zero, List.getElem_cons_succ, List.setIfInBounds_toArray, List.set_cons_zero, List.set_cons_succ]
  refine wpAnyH_take (i := 3) (v := ?_) rfl (by kernel_rfl) (by kernel_rfl) (by kernel_rfl) (fun _ _ _ h => h) (Or.inl ⟨by rfl, ?_⟩) (by assumption) ?_
  rotate_left 1
  · intro w hSw; (try dsimp only at hSw); obtain ⟨-, ⟨-, i0, i1, i2⟩, ⟨-, s0, s1, s2, -⟩, -⟩ := hSw.out; go_simp; try with_reducible rfl
  try simp only [Act.put, List.getElem_toArray, List.getElem_cons_zero, List.getElem_cons_succ, List.setIfInBounds_toArray, List.set_cons_zero, List.set_cons_succ]
  refine wpAnyH_take (i := 4) (v := ?_) rfl (by kernel_rfl) (by kernel_rfl) (by kernel_rfl) (fun _ _ _ h => h) (Or.inl ⟨by rfl, ?_⟩) (by assumption) ?_
  rotate_left 1
  · intro w _; go_simp; try with_reducible rfl
  try simp only [Act.put, List.getElem_toArray, List.getElem_cons_zero, List.getElem_cons_succ, List.setIfInBounds_toArray, List.set_cons_zero, List.set_cons_succ]
  refine wpAnyH_take (i := 5) (v := ?_) rfl (by kernel_rfl) (by kernel_rfl) (by kernel_rfl) (fun _ _ _ h => h) (Or.inl ⟨by rfl, ?_⟩) (by assumption) ?_
  rotate_left 1
  · intro w _; go_simp; try with_reducible rfl
  try simp only [Act.put, List.getElem_toArray, List.getElem_cons_zero, List.getElem_cons_succ, List.setIfInBounds_toArray, List.set_cons_zero, List.set_cons_succ]
  refine wpAnyH_take (i := 6) (v := ?_) rfl (by kernel_rfl) (by kernel_rfl) (by kernel_rfl) (fun _ _ _ h => h) (Or.inl ⟨by rfl, ?_⟩) (by assumption) ?_
  rotate_left 1
  · intro w _; go_simp; try with_reducible rfl
  try simp only [Act.put, List.getElem_toArray, List.getElem_cons_zero, List.getElem_cons_succ, List.setIfInBounds_toArray, List.set_cons_zero, List.set_cons_succ]
  refine wpAnyH_take (i := 7) (v := ?_) rfl (by kernel_rfl) (by kernel_rfl) (by kernel_rfl) (fun _ _ _ h => h) (Or.inl ⟨by rfl, ?_⟩) (by assumption) ?_
  rotate_left 1
  · intro w hSw; (try dsimp only at hSw); obtain ⟨-, ⟨-, i0, i1, i2⟩, ⟨-, s0, s1, s2, -⟩, -⟩ := hSw.out; go_simp; try with_reducible rfl
  try simp only [Act.put, List.getElem_toArray, List.getElem_cons_zero, List.getElem_cons_succ, List.setIfInBounds_toArray, List.set_cons_zero, List.set_cons_succ]
  refine wpAnyH_take (i := 8) (v := ?_) rfl (by kernel_rfl) (by kernel_rfl) (by kernel_rfl) (fun _ _ _ h => h) (Or.inl ⟨by rfl, ?_⟩) (by assumption) ?_
  rotate_left 1
  · intro w _; go_simp; try with_reducible rfl
  try simp only [Act.put, List.getElem_toArray, List.getElem_cons_zero, List.getElem_cons_succ, List.setIfInBounds_toArray, List.set_cons_zero, List.set_cons_succ]
  refine wpAnyH_take (i := 9) (v := ?_) rfl (by kernel_rfl) (by kernel_rfl) (by kernel_rfl) (fun _ _ _ h => h) (Or.inl ⟨by rfl, ?_⟩) (by assumption) ?_
  rotate_left 1
  · intro w hSw; (try dsimp only at hSw); obtain ⟨-, ⟨-, i0, i1, i2⟩, ⟨-, s0, s1, s2, -⟩, -⟩ := hSw.out; go_simp; try with_reducible rfl
  try simp only [Act.put, List.getElem_toArray, List.getElem_cons_zero, List.getElem_cons_succ, List.setIfInBounds_toArray, List.set_cons_zero, List.set_cons_succ]
  refine wpAnyH_ready (rs := [10]) (by kernel_rfl) (by simp) ?_
  refine AllReadyH.cons rfl (fun K hK => ?_) AllReadyH.nil
  go_simp
  refine (HG _ hHeld.out.2.2.2.1).out.mono ?_
  rintro e w1 ⟨rfl, hb⟩
  go_wp2_with fail
  refine hK.out _ _ (Hsx.call hb hHeld) (fun hHeld => ?_)
  clear hK K
  try simp only [Act.put, List.getElem_toArray, List.getElem_cons_zero, List.getElem_cons_succ, List.setIfInBounds_toArray, List.set_cons_zero, List.set_cons_succ]
  refine wpAnyH_take (i := 11) (v := ?_) rfl (by kernel_rfl) (by kernel_rfl) (by kernel_rfl) (fun _ _ _ h => h) (Or.inl ⟨by rfl, ?_⟩) (by assumption) ?_
  rotate_left 1
  · intro w _; go_simp; try with_reducible rfl
  try simp only [Act.put, List.getElem_toArray, List.getElem_cons_zero, List.getElem_cons_succ, List.setIfInBounds_toArray, List.set_cons_zero, List.set_cons_succ]
  refine wpAnyH_take (i := 12) (v := ?_) rfl (by kernel_rfl) (by kernel_rfl) (by kernel_rfl) (fun _ _ _ h => h) (Or.inl ⟨by rfl, ?_⟩) (by assumption) ?_
  rotate_left 1
  · intro w _; go_simp; try with_reducible rfl
  try simp only [Act.put, List.getElem_toArray, List.getElem_cons_zero, List.getElem_cons_succ, List.setIfInBounds_toArray, List.set_cons_zero, List.set_cons_succ]
  refine wpAnyH_take (i := 13) (v := ?_) rfl (by kernel_rfl) (by kernel_rfl) (by kernel_rfl) (fun _ _ _ h => h) (Or.inl ⟨by rfl, ?_⟩) (by assumption) ?_
  rotate_left 1
  · intro w _; go_simp; try with_reducible rfl
  try simp only [Act.put, List.getElem_toArray, List.getElem_cons_zero, List.getElem_cons_succ, List.setIfInBounds_toArray, List.set_cons_zero, List.set_cons_succ]
  refine wpAnyH_take (i := 14) (v := ?_) rfl (by kernel_rfl) (by kernel_rfl) (by kernel_rfl) (fun _ _ _ h => h) (Or.inl ⟨by rfl, ?_⟩) (by assumption) ?_
  rotate_left 1
  · intro w _; go_simp; try with_reducible rfl
  try simp only [Act.put, List.getElem_toArray, List.getElem_cons_zero, List.getElem_cons_succ, List.setIfInBounds_toArray, List.set_cons_zero, List.set_cons_succ]
  refine wpAnyH_take (i := 15) (v := ?_) rfl (by kernel_rfl) (by kernel_rfl) (by kernel_rfl) (fun _ _ _ h => h) (Or.inl ⟨by rfl, ?_⟩) (by assumption) ?_
  rotate_left 1
  · intro w _; go_simp; try with_reducible rfl
  try simp only [Act.put, List.getElem_toArray, List.getElem_cons_zero, List.getElem_cons_succ, List.setIfInBounds_toArray, List.set_cons_zero, List.set_cons_succ]
  refine wpAnyH_take (i := 16) (v := ?_) rfl (by kernel_rfl) (by kernel_rfl) (by kernel_rfl) (fun _ _ _ h => h) (Or.inl ⟨by rfl, ?_⟩) (by assumption) ?_
  rotate_left 1
  · intro w _; go_simp; try with_reducible rfl
  try simp only [Act.put, List.getElem_toArray, List.getElem_cons_zero, List.getElem_cons_succ, List.setIfInBounds_toArray, List.set_cons_zero, List.set_cons_succ]
  refine wpAnyH_take (i := 17) (v := ?_) rfl (by kernel_rfl) (by kernel_rfl) (by kernel_rfl) (fun _ _ _ h => h) (Or.inl ⟨by rfl, ?_⟩) (by assumption) ?_
  rotate_left 1
  · intro w _; go_simp; try with_reducible rfl
  try simp only [Act.put, List.getElem_toArray, List.getElem_cons_zero, List.getElem_cons_succ, List.setIfInBounds_toArray, List.set_cons_zero, List.set_cons_succ]
  refine wpAnyH_done (by kernel_rfl) ?_ _
  have he : (E == 0) = false := by simpa using h0
  have he2 : (E != 0) = true := by simpa using h0
  obtain ⟨-, ⟨-, i0, i1, i2⟩, ⟨b0, s0, s1, s2, z0, z1, z2⟩, -⟩ := hHeld.out
  go_wp2_with fail
  go_ret
  exact ⟨rfl, g7_set (g7_of hHeld.out.1 _) (.inr rfl) _, hHeld.out.2.2.1.set2 E⟩
set_option maxHeartbeats 1000000 in
theorem num7_yes (B : Nat) (A : Option Addr) (c n : Nat) (l : List Int) (W lo hi at_ V N E : Int) (w : World) (hr : Rd w A c l) (hn : l.length = n) (h : R3 w B A c n at_ 0) (hV : getV l at_ W = V) (hN : getN l at_ W = N) (hE : getE l at_ W = E) (h0 : E = 0) (hx : lo ≤ V ∧ V ≤ hi) : Calls Tryd.prog 118 #[.pointer (some ⟨B, 0, none⟩), fv W lo hi] w fun e w' => e = .returned (.int .i64 V) ∧ w.grownBy w' (some B) ∧ R3 w' B A c n N 0 := by
  subst hn
  have HG := fun w hr => Lib.hid (get_any A c l at_ W w hr)
  rw [hV, hN, hE] at HG
  have S0 := Lib.hid ((((Sx.start w).add (fR A c l) hr).add (fR3 B A c l.length at_ 0) h).mk1 (.cells #[.int .i64 W, .int .i64 lo, .int .i64 hi] 95) |>.add (fT3 w.heap.size W lo hi) (T3.new w W lo hi 95))
  clear hV hN hE hr
  obtain ⟨b0, s0, s1, s2, z0, z1, z2⟩ := h.keep (new1 (a := .cells #[.int .i64 W, .int .i64 lo, .int .i64 hi] 95))
  clear h
  go_enter Tryd.func118, Tryd.ntmps118
  go_upto_region 3 with (fail)
  clear b0 s0 s1 s2 z0 z1 z2
  refine wp_region_held_drew (S := fun w' => Hid (Sx w w' [fT3 w.heap.size W lo hi, fR3 B A c l.length at_ 0, fR A c l])) (by kernel_rfl) (Hsx.drew S0) (fun hHeld => ?_)
  refine wpAnyH_take (i := 0) (v := ?_) rfl (by kernel_rfl) (by kernel_rfl) (by kernel_rfl) (fun _ _ _ h => h) (Or.inl ⟨by rfl, ?_⟩) (by assumption) ?_
  rotate_left 1
  · intro w _; go_simp; try with_reducible rfl
  try simp only [Act.put, List.getElem_toArray, List.getElem_cons_zero, List.getElem_cons_succ, List.setIfInBounds_toArray, List.set_cons_zero, List.set_cons_succ]
  refine wpAnyH_take (i := 1) (v := ?_) rfl (by kernel_rfl) (by kernel_rfl) (by kernel_rfl) (fun _ _ _ h => h) (Or.inl ⟨by rfl, ?_⟩) (by assumption) ?_
  rotate_left 1
  · intro w _; go_simp; try with_reducible rfl
  try simp only [Act.put, List.getElem_toArray, List.getElem_cons_zero, List.getElem_cons_succ, List.setIfInBounds_toArray, List.set_cons_zero, List.set_cons_succ]
  refine wpAnyH_take (i := 2) (v := ?_) rfl (by kernel_rfl) (by kernel_rfl) (by kernel_rfl) (fun _ _ _ h => h) (Or.inl ⟨by rfl, ?_⟩) (by assumption) ?_
  rotate_left 1
  · intro w _; go_simp; try with_reducible rfl
  try simp only [Act.put, List.getElem_toArray, List.getElem_cons_zero, List.getElem_cons_succ, List.setIfInBounds_toArray, List.set_cons_zero, List.set_cons_succ]
  refine wpAnyH_take (i := 3) (v := ?_) rfl (by kernel_rfl) (by kernel_rfl) (by kernel_rfl) (fun _ _ _ h => h) (Or.inl ⟨by rfl, ?_⟩) (by assumption) ?_
  rotate_left 1
  · intro w hSw; (try dsimp only at hSw); obtain ⟨-, ⟨-, i0, i1, i2⟩, ⟨-, s0, s1, s2, -⟩, -⟩ := hSw.out; go_simp; try with_reducible rfl
  try simp only [Act.put, List.getElem_toArray, List.getElem_cons_zero, List.getElem_cons_succ, List.setIfInBounds_toArray, List.set_cons_zero, List.set_cons_succ]
  refine wpAnyH_take (i := 4) (v := ?_) rfl (by kernel_rfl) (by kernel_rfl) (by kernel_rfl) (fun _ _ _ h => h) (Or.inl ⟨by rfl, ?_⟩) (by assumption) ?_
  rotate_left 1
  · intro w _; go_simp; try with_reducible rfl
  try simp only [Act.put, List.getElem_toArray, List.getElem_cons_zero, List.getElem_cons_succ, List.setIfInBounds_toArray, List.set_cons_zero, List.set_cons_succ]
  refine wpAnyH_take (i := 5) (v := ?_) rfl (by kernel_rfl) (by kernel_rfl) (by kernel_rfl) (fun _ _ _ h => h) (Or.inl ⟨by rfl, ?_⟩) (by assumption) ?_
  rotate_left 1
  · intro w _; go_simp; try with_reducible rfl
  try simp only [Act.put, List.getElem_toArray, List.getElem_cons_zero, List.getElem_cons_succ, List.setIfInBounds_toArray, List.set_cons_zero, List.set_cons_succ]
  refine wpAnyH_take (i := 6) (v := ?_) rfl (by kernel_rfl) (by kernel_rfl) (by kernel_rfl) (fun _ _ _ h => h) (Or.inl ⟨by rfl, ?_⟩) (by assumption) ?_
  rotate_left 1
  · intro w _; go_simp; try with_reducible rfl
  try simp only [Act.put, List.getElem_toArray, List.getElem_cons_zero, List.getElem_cons_succ, List.setIfInBounds_toArray, List.set_cons_zero, List.set_cons_succ]
  refine wpAnyH_take (i := 7) (v := ?_) rfl (by kernel_rfl) (by kernel_rfl) (by kernel_rfl) (fun _ _ _ h => h) (Or.inl ⟨by rfl, ?_⟩) (by assumption) ?_
  rotate_left 1
  · intro w hSw; (try dsimp only at hSw); obtain ⟨-, ⟨-, i0, i1, i2⟩, ⟨-, s0, s1, s2, -⟩, -⟩ := hSw.out; go_simp; try with_reducible rfl
  try simp only [Act.put, List.getElem_toArray, List.getElem_cons_zero, List.getElem_cons_succ, List.setIfInBounds_toArray, List.set_cons_zero, List.set_cons_succ]
  refine wpAnyH_take (i := 8) (v := ?_) rfl (by kernel_rfl) (by kernel_rfl) (by kernel_rfl) (fun _ _ _ h => h) (Or.inl ⟨by rfl, ?_⟩) (by assumption) ?_
  rotate_left 1
  · intro w _; go_simp; try with_reducible rfl
  try simp only [Act.put, List.getElem_toArray, List.getElem_cons_zero, List.getElem_cons_succ, List.setIfInBounds_toArray, List.set_cons_zero, List.set_cons_succ]
  refine wpAnyH_take (i := 9) (v := ?_) rfl (by kernel_rfl) (by kernel_rfl) (by kernel_rfl) (fun _ _ _ h => h) (Or.inl ⟨by rfl, ?_⟩) (by assumption) ?_
  rotate_left 1
  · intro w hSw; (try dsimp only at hSw); obtain ⟨-, ⟨-, i0, i1, i2⟩, ⟨-, s0, s1, s2, -⟩, -⟩ := hSw.out; go_simp; try with_reducible rfl
  try simp only [Act.put, List.getElem_toArray, List.getElem_cons_zero, List.getElem_cons_succ, List.setIfInBounds_toArray, List.set_cons_zero, List.set_cons_succ]
  refine wpAnyH_ready (rs := [10]) (by kernel_rfl) (by simp) ?_
  refine AllReadyH.cons rfl (fun K hK => ?_) AllReadyH.nil
  go_simp
  refine (HG _ hHeld.out.2.2.2.1).out.mono ?_
  rintro e w1 ⟨rfl, hb⟩
  go_wp2_with fail
  refine hK.out _ _ (Hsx.call hb hHeld) (fun hHeld => ?_)
  clear hK K
  try simp only [Act.put, List.getElem_toArray, List.getElem_cons_zero, List.getElem_cons_succ, List.setIfInBounds_toArray, List.set_cons_zero, List.set_cons_succ]
  refine wpAnyH_take (i := 11) (v := ?_) rfl (by kernel_rfl) (by kernel_rfl) (by kernel_rfl) (fun _ _ _ h => h) (Or.inl ⟨by rfl, ?_⟩) (by assumption) ?_
  rotate_left 1
  · intro w _; go_simp; try with_reducible rfl
  try simp only [Act.put, List.getElem_toArray, List.getElem_cons_zero, List.getElem_cons_succ, List.setIfInBounds_toArray, List.set_cons_zero, List.set_cons_succ]
  refine wpAnyH_take (i := 12) (v := ?_) rfl (by kernel_rfl) (by kernel_rfl) (by kernel_rfl) (fun _ _ _ h => h) (Or.inl ⟨by rfl, ?_⟩) (by assumption) ?_
  rotate_left 1
  · intro w _; go_simp; try with_reducible rfl
  try simp only [Act.put, List.getElem_toArray, List.getElem_cons_zero, List.getElem_cons_succ, List.setIfInBounds_toArray, List.set_cons_zero, List.set_cons_succ]
  refine wpAnyH_take (i := 13) (v := ?_) rfl (by kernel_rfl) (by kernel_rfl) (by kernel_rfl) (fun _ _ _ h => h) (Or.inl ⟨by rfl, ?_⟩) (by assumption) ?_
  rotate_left 1
  · intro w _; go_simp; try with_reducible rfl
  try simp only [Act.put, List.getElem_toArray, List.getElem_cons_zero, List.getElem_cons_succ, List.setIfInBounds_toArray, List.set_cons_zero, List.set_cons_succ]
  refine wpAnyH_take (i := 14) (v := ?_) rfl (by kernel_rfl) (by kernel_rfl) (by kernel_rfl) (fun _ _ _ h => h) (Or.inl ⟨by rfl, ?_⟩) (by assumption) ?_
  rotate_left 1
  · intro w _; go_simp; try with_reducible rfl
  try simp only [Act.put, List.getElem_toArray, List.getElem_cons_zero, List.getElem_cons_succ, List.setIfInBounds_toArray, List.set_cons_zero, List.set_cons_succ]
  refine wpAnyH_take (i := 15) (v := ?_) rfl (by kernel_rfl) (by kernel_rfl) (by kernel_rfl) (fun _ _ _ h => h) (Or.inl ⟨by rfl, ?_⟩) (by assumption) ?_
  rotate_left 1
  · intro w _; go_simp; try with_reducible rfl
  try simp only [Act.put, List.getElem_toArray, List.getElem_cons_zero, List.getElem_cons_succ, List.setIfInBounds_toArray, List.set_cons_zero, List.set_cons_succ]
  refine wpAnyH_take (i := 16) (v := ?_) rfl (by kernel_rfl) (by kernel_rfl) (by kernel_rfl) (fun _ _ _ h => h) (Or.inl ⟨by rfl, ?_⟩) (by assumption) ?_
  rotate_left 1
  · intro w _; go_simp; try with_reducible rfl
  try simp only [Act.put, List.getElem_toArray, List.getElem_cons_zero, List.getElem_cons_succ, List.setIfInBounds_toArray, List.set_cons_zero, List.set_cons_succ]
  refine wpAnyH_take (i := 17) (v := ?_) rfl (by kernel_rfl) (by kernel_rfl) (by kernel_rfl) (fun _ _ _ h => h) (Or.inl ⟨by rfl, ?_⟩) (by assumption) ?_
  rotate_left 1
  · intro w _; go_simp; try with_reducible rfl
  try simp only [Act.put, List.getElem_toArray, List.getElem_cons_zero, List.getElem_cons_succ, List.setIfInBounds_toArray, List.set_cons_zero, List.set_cons_succ]
  refine wpAnyH_done (by kernel_rfl) ?_ _
  obtain rfl := h0
  obtain ⟨-, ⟨-, i0, i1, i2⟩, -⟩ := hHeld.out
  go_wp2_with fail
  refine (fmay_v W lo hi V _).mono ?_
  rintro e w3 ⟨rfl, hb3⟩
  rw [show (decide (lo ≤ V) && decide (V ≤ hi)) = true by simpa using hx]
  have S3 := Lib.hid (hHeld.out.call hb3)
  clear hb3 hHeld i0 i1 i2
  obtain ⟨-, ⟨-, i0, i1, i2⟩, ⟨b0, s0, s1, s2, z0, z1, z2⟩, -⟩ := S3.out
  go_wp2_with fail
  go_ret
  exact ⟨rfl, g7_set (g7_of S3.out.1 _) (.inr rfl) _, S3.out.2.2.1.set1 N⟩
set_option maxHeartbeats 1000000 in
theorem num7_no (B : Nat) (A : Option Addr) (c n : Nat) (l : List Int) (W lo hi at_ V N E : Int) (w : World) (hr : Rd w A c l) (hn : l.length = n) (h : R3 w B A c n at_ 0) (hV : getV l at_ W = V) (hN : getN l at_ W = N) (hE : getE l at_ W = E) (h0 : E = 0) (hx : ¬ (lo ≤ V ∧ V ≤ hi)) : Calls Tryd.prog 118 #[.pointer (some ⟨B, 0, none⟩), fv W lo hi] w fun e w' => e = .returned (.int .i64 0) ∧ w.grownBy w' (some B) ∧ R3 w' B A c n at_ 70 := by
  subst hn
  have HG := fun w hr => Lib.hid (get_any A c l at_ W w hr)
  rw [hV, hN, hE] at HG
  have S0 := Lib.hid ((((Sx.start w).add (fR A c l) hr).add (fR3 B A c l.length at_ 0) h).mk1 (.cells #[.int .i64 W, .int .i64 lo, .int .i64 hi] 95) |>.add (fT3 w.heap.size W lo hi) (T3.new w W lo hi 95))
  clear hV hN hE hr
  obtain ⟨b0, s0, s1, s2, z0, z1, z2⟩ := h.keep (new1 (a := .cells #[.int .i64 W, .int .i64 lo, .int .i64 hi] 95))
  clear h
  go_enter Tryd.func118, Tryd.ntmps118
  go_upto_region 3 with (fail)
  clear b0 s0 s1 s2 z0 z1 z2
  refine wp_region_held_drew (S := fun w' => Hid (Sx w w' [fT3 w.heap.size W lo hi, fR3 B A c l.length at_ 0, fR A c l])) (by kernel_rfl) (Hsx.drew S0) (fun hHeld => ?_)
  refine wpAnyH_take (i := 0) (v := ?_) rfl (by kernel_rfl) (by kernel_rfl) (by kernel_rfl) (fun _ _ _ h => h) (Or.inl ⟨by rfl, ?_⟩) (by assumption) ?_
  rotate_left 1
  · intro w _; go_simp; try with_reducible rfl
  try simp only [Act.put, List.getElem_toArray, List.getElem_cons_zero, List.getElem_cons_succ, List.setIfInBounds_toArray, List.set_cons_zero, List.set_cons_succ]
  refine wpAnyH_take (i := 1) (v := ?_) rfl (by kernel_rfl) (by kernel_rfl) (by kernel_rfl) (fun _ _ _ h => h) (Or.inl ⟨by rfl, ?_⟩) (by assumption) ?_
  rotate_left 1
  · intro w _; go_simp; try with_reducible rfl
  try simp only [Act.put, List.getElem_toArray, List.getElem_cons_zero, List.getElem_cons_succ, List.setIfInBounds_toArray, List.set_cons_zero, List.set_cons_succ]
  refine wpAnyH_take (i := 2) (v := ?_) rfl (by kernel_rfl) (by kernel_rfl) (by kernel_rfl) (fun _ _ _ h => h) (Or.inl ⟨by rfl, ?_⟩) (by assumption) ?_
  rotate_left 1
  · intro w _; go_simp; try with_reducible rfl
  try simp only [Act.put, List.getElem_toArray, List.getElem_cons_zero, List.getElem_cons_succ, List.setIfInBounds_toArray, List.set_cons_zero, List.set_cons_succ]
  refine wpAnyH_take (i := 3) (v := ?_) rfl (by kernel_rfl) (by kernel_rfl) (by kernel_rfl) (fun _ _ _ h => h) (Or.inl ⟨by rfl, ?_⟩) (by assumption) ?_
  rotate_left 1
  · intro w hSw; (try dsimp only at hSw); obtain ⟨-, ⟨-, i0, i1, i2⟩, ⟨-, s0, s1, s2, -⟩, -⟩ := hSw.out; go_simp; try with_reducible rfl
  try simp only [Act.put, List.getElem_toArray, List.getElem_cons_zero, List.getElem_cons_succ, List.setIfInBounds_toArray, List.set_cons_zero, List.set_cons_succ]
  refine wpAnyH_take (i := 4) (v := ?_) rfl (by kernel_rfl) (by kernel_rfl) (by kernel_rfl) (fun _ _ _ h => h) (Or.inl ⟨by rfl, ?_⟩) (by assumption) ?_
  rotate_left 1
  · intro w _; go_simp; try with_reducible rfl
  try simp only [Act.put, List.getElem_toArray, List.getElem_cons_zero, List.getElem_cons_succ, List.setIfInBounds_toArray, List.set_cons_zero, List.set_cons_succ]
  refine wpAnyH_take (i := 5) (v := ?_) rfl (by kernel_rfl) (by kernel_rfl) (by kernel_rfl) (fun _ _ _ h => h) (Or.inl ⟨by rfl, ?_⟩) (by assumption) ?_
  rotate_left 1
  · intro w _; go_simp; try with_reducible rfl
  try simp only [Act.put, List.getElem_toArray, List.getElem_cons_zero, List.getElem_cons_succ, List.setIfInBounds_toArray, List.set_cons_zero, List.set_cons_succ]
  refine wpAnyH_take (i := 6) (v := ?_) rfl (by kernel_rfl) (by kernel_rfl) (by kernel_rfl) (fun _ _ _ h => h) (Or.inl ⟨by rfl, ?_⟩) (by assumption) ?_
  rotate_left 1
  · intro w _; go_simp; try with_reducible rfl
  try simp only [Act.put, List.getElem_toArray, List.getElem_cons_zero, List.getElem_cons_succ, List.setIfInBounds_toArray, List.set_cons_zero, List.set_cons_succ]
  refine wpAnyH_take (i := 7) (v := ?_) rfl (by kernel_rfl) (by kernel_rfl) (by kernel_rfl) (fun _ _ _ h => h) (Or.inl ⟨by rfl, ?_⟩) (by assumption) ?_
  rotate_left 1
  · intro w hSw; (try dsimp only at hSw); obtain ⟨-, ⟨-, i0, i1, i2⟩, ⟨-, s0, s1, s2, -⟩, -⟩ := hSw.out; go_simp; try with_reducible rfl
  try simp only [Act.put, List.getElem_toArray, List.getElem_cons_zero, List.getElem_cons_succ, List.setIfInBounds_toArray, List.set_cons_zero, List.set_cons_succ]
  refine wpAnyH_take (i := 8) (v := ?_) rfl (by kernel_rfl) (by kernel_rfl) (by kernel_rfl) (fun _ _ _ h => h) (Or.inl ⟨by rfl, ?_⟩) (by assumption) ?_
  rotate_left 1
  · intro w _; go_simp; try with_reducible rfl
  try simp only [Act.put, List.getElem_toArray, List.getElem_cons_zero, List.getElem_cons_succ, List.setIfInBounds_toArray, List.set_cons_zero, List.set_cons_succ]
  refine wpAnyH_take (i := 9) (v := ?_) rfl (by kernel_rfl) (by kernel_rfl) (by kernel_rfl) (fun _ _ _ h => h) (Or.inl ⟨by rfl, ?_⟩) (by assumption) ?_
  rotate_left 1
  · intro w hSw; (try dsimp only at hSw); obtain ⟨-, ⟨-, i0, i1, i2⟩, ⟨-, s0, s1, s2, -⟩, -⟩ := hSw.out; go_simp; try with_reducible rfl
  try simp only [Act.put, List.getElem_toArray, List.getElem_cons_zero, List.getElem_cons_succ, List.setIfInBounds_toArray, List.set_cons_zero, List.set_cons_succ]
  refine wpAnyH_ready (rs := [10]) (by kernel_rfl) (by simp) ?_
  refine AllReadyH.cons rfl (fun K hK => ?_) AllReadyH.nil
  go_simp
  refine (HG _ hHeld.out.2.2.2.1).out.mono ?_
  rintro e w1 ⟨rfl, hb⟩
  go_wp2_with fail
  refine hK.out _ _ (Hsx.call hb hHeld) (fun hHeld => ?_)
  clear hK K
  try simp only [Act.put, List.getElem_toArray, List.getElem_cons_zero, List.getElem_cons_succ, List.setIfInBounds_toArray, List.set_cons_zero, List.set_cons_succ]
  refine wpAnyH_take (i := 11) (v := ?_) rfl (by kernel_rfl) (by kernel_rfl) (by kernel_rfl) (fun _ _ _ h => h) (Or.inl ⟨by rfl, ?_⟩) (by assumption) ?_
  rotate_left 1
  · intro w _; go_simp; try with_reducible rfl
  try simp only [Act.put, List.getElem_toArray, List.getElem_cons_zero, List.getElem_cons_succ, List.setIfInBounds_toArray, List.set_cons_zero, List.set_cons_succ]
  refine wpAnyH_take (i := 12) (v := ?_) rfl (by kernel_rfl) (by kernel_rfl) (by kernel_rfl) (fun _ _ _ h => h) (Or.inl ⟨by rfl, ?_⟩) (by assumption) ?_
  rotate_left 1
  · intro w _; go_simp; try with_reducible rfl
  try simp only [Act.put, List.getElem_toArray, List.getElem_cons_zero, List.getElem_cons_succ, List.setIfInBounds_toArray, List.set_cons_zero, List.set_cons_succ]
  refine wpAnyH_take (i := 13) (v := ?_) rfl (by kernel_rfl) (by kernel_rfl) (by kernel_rfl) (fun _ _ _ h => h) (Or.inl ⟨by rfl, ?_⟩) (by assumption) ?_
  rotate_left 1
  · intro w _; go_simp; try with_reducible rfl
  try simp only [Act.put, List.getElem_toArray, List.getElem_cons_zero, List.getElem_cons_succ, List.setIfInBounds_toArray, List.set_cons_zero, List.set_cons_succ]
  refine wpAnyH_take (i := 14) (v := ?_) rfl (by kernel_rfl) (by kernel_rfl) (by kernel_rfl) (fun _ _ _ h => h) (Or.inl ⟨by rfl, ?_⟩) (by assumption) ?_
  rotate_left 1
  · intro w _; go_simp; try with_reducible rfl
  try simp only [Act.put, List.getElem_toArray, List.getElem_cons_zero, List.getElem_cons_succ, List.setIfInBounds_toArray, List.set_cons_zero, List.set_cons_succ]
  refine wpAnyH_take (i := 15) (v := ?_) rfl (by kernel_rfl) (by kernel_rfl) (by kernel_rfl) (fun _ _ _ h => h) (Or.inl ⟨by rfl, ?_⟩) (by assumption) ?_
  rotate_left 1
  · intro w _; go_simp; try with_reducible rfl
  try simp only [Act.put, List.getElem_toArray, List.getElem_cons_zero, List.getElem_cons_succ, List.setIfInBounds_toArray, List.set_cons_zero, List.set_cons_succ]
  refine wpAnyH_take (i := 16) (v := ?_) rfl (by kernel_rfl) (by kernel_rfl) (by kernel_rfl) (fun _ _ _ h => h) (Or.inl ⟨by rfl, ?_⟩) (by assumption) ?_
  rotate_left 1
  · intro w _; go_simp; try with_reducible rfl
  try simp only [Act.put, List.getElem_toArray, List.getElem_cons_zero, List.getElem_cons_succ, List.setIfInBounds_toArray, List.set_cons_zero, List.set_cons_succ]
  refine wpAnyH_take (i := 17) (v := ?_) rfl (by kernel_rfl) (by kernel_rfl) (by kernel_rfl) (fun _ _ _ h => h) (Or.inl ⟨by rfl, ?_⟩) (by assumption) ?_
  rotate_left 1
  · intro w _; go_simp; try with_reducible rfl
  try simp only [Act.put, List.getElem_toArray, List.getElem_cons_zero, List.getElem_cons_succ, List.setIfInBounds_toArray, List.set_cons_zero, List.set_cons_succ]
  refine wpAnyH_done (by kernel_rfl) ?_ _
  obtain rfl := h0
  obtain ⟨-, ⟨-, i0, i1, i2⟩, -⟩ := hHeld.out
  go_wp2_with fail
  refine (fmay_v W lo hi V _).mono ?_
  rintro e w3 ⟨rfl, hb3⟩
  rw [show (decide (lo ≤ V) && decide (V ≤ hi)) = false by simp; omega]
  have S3 := Lib.hid (hHeld.out.call hb3)
  clear hb3 hHeld i0 i1 i2
  obtain ⟨-, ⟨-, i0, i1, i2⟩, ⟨b0, s0, s1, s2, z0, z1, z2⟩, -⟩ := S3.out
  go_wp2_with fail
  go_ret
  exact ⟨rfl, g7_set (g7_of S3.out.1 _) (.inr rfl) _, S3.out.2.2.1.set2 70⟩
/-- What the reader's number answers, whatever it is. -/
theorem num7_v (B : Nat) (A : Option Addr) (c n : Nat) (l : List Int) (W lo hi p e v p' e' : Int) (w : World) (hr : Rd w A c l) (hn : l.length = n) (h : R3 w B A c n p e) (hR : rN l W lo hi (p, e) = (v, p', e')) : Calls Tryd.prog 118 #[.pointer (some ⟨B, 0, none⟩), fv W lo hi] w fun x w' => x = .returned (.int .i64 v) ∧ w.grownBy w' (some B) ∧ R3 w' B A c n p' e' := by
  by_cases he : e = 0
  · subst he
    by_cases hE : getE l p W = 0
    · by_cases hx : lo ≤ getV l p W ∧ getV l p W ≤ hi
      · have e0 : nE l p W lo hi = 0 := by rw [nE, if_pos hE, if_pos hx]
        rw [rN_yes e0] at hR
        simp only [Prod.mk.injEq] at hR
        obtain ⟨rfl, rfl, rfl⟩ := hR
        exact num7_yes B A c n l W lo hi p _ _ _ w hr hn h rfl rfl rfl hE hx
      · have e0 : nE l p W lo hi = 70 := by rw [nE, if_pos hE, if_neg hx]
        rw [rN_no (by rw [e0]; decide), e0] at hR
        simp only [Prod.mk.injEq] at hR
        obtain ⟨rfl, rfl, rfl⟩ := hR
        exact num7_no B A c n l W lo hi p _ _ _ w hr hn h rfl rfl rfl hE hx
    · have e0 : nE l p W lo hi = getE l p W := by rw [nE, if_neg hE]
      rw [rN_no (by rw [e0]; exact hE), e0] at hR
      simp only [Prod.mk.injEq] at hR
      obtain ⟨rfl, rfl, rfl⟩ := hR
      exact num7_bad B A c n l W lo hi p _ _ _ w hr hn h rfl rfl rfl hE
  · rw [rN_err he] at hR
    simp only [Prod.mk.injEq] at hR
    obtain ⟨rfl, rfl, rfl⟩ := hR
    refine (num7_err B A c n W lo hi p e w h he).mono ?_
    rintro x w' ⟨rfl, hb⟩
    exact ⟨rfl, g7_of hb _, h.keep hb⟩
end Go.Proofs.YteimpkjpoijhmaaDoor
