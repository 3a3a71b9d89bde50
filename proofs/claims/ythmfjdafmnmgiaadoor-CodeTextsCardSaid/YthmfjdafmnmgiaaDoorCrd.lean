/-
  Layer 5, package code: the reader: what number, instruction and code come to: a result, or a panic that bears octet's error.
-/
import Derived.Test.YthmfjdafmnmgiaaDoorCpb
import Derived.Test.YthmfjdafmnmgiaaDoorCm
import Derived.Recover
namespace Go.Proofs.YthmfjdafmnmgiaaDoor
open Go.RowKit
set_option maxRecDepth 100000
set_option linter.unusedSimpArgs false
set_option linter.unusedVariables false

/-- A reader lies at block B: a slice, and a place. -/
def Rr (w : World) (B : Nat) (A : Option Addr) (c n : Nat) (p : Int) : Prop := B < w.heap.size ∧ w.cell? ⟨B, 0, none⟩ = some (.slice A n c) ∧ w.cell? ⟨B, 1, none⟩ = some (.int .i64 p) ∧ w.frozen? ⟨B, 0, none⟩ = false ∧ w.frozen? ⟨B, 1, none⟩ = false
section
variable {w w' : World} {B : Nat} {A : Option Addr} {c n : Nat} {p : Int}
theorem Rr.keep (h : Rr w B A c n p) (hb : Below w.heap.size w w') : Rr w' B A c n p := by
  obtain ⟨h1, h2, h3, h4, h5⟩ := h
  obtain ⟨hc, hf⟩ := bcell hb
  exact ⟨Nat.lt_of_lt_of_le h1 hb.size, (hc _ _ h1).trans h2, (hc _ _ h1).trans h3, (hf _ _ h1).trans h4, (hf _ _ h1).trans h5⟩
theorem Rr.set1 (h : Rr w B A c n p) (q : Int) : Rr (w.setCell ⟨B, 1, none⟩ (.int .i64 q)) B A c n q := by
  obtain ⟨h1, h2, h3, h4, h5⟩ := h
  refine ⟨by simpa using h1, ?_, ?_, ?_, ?_⟩ <;> simp [go_sem, h2, h3, h4, h5]
theorem Rr.other (h : Rr w B A c n p) {q : Addr} (hp : q.block ≠ B) (v : Value) : Rr (w.setCell q v) B A c n p := by
  obtain ⟨h1, h2, h3, h4, h5⟩ := h
  have ne : ∀ i, q ≠ (⟨B, i, none⟩ : Addr) := fun i e => hp (by rw [e])
  refine ⟨by simpa using h1, ?_, ?_, ?_, ?_⟩
  · rw [World.cell?_setCell_other _ _ _ _ (ne 0)]; exact h2
  · rw [World.cell?_setCell_other _ _ _ _ (ne 1)]; exact h3
  · simpa using h4
  · simpa using h5
theorem Rr.new (w : World) (A : Option Addr) (c n : Nat) (p : Int) (t : Nat) : Rr (w.alloc (.cells #[.slice A n c, .int .i64 p] t)) w.heap.size A c n p := by
  refine ⟨by simp, ?_, ?_, ?_, ?_⟩ <;> simp [go_sem]
end
abbrev fQ (B : Nat) (A : Option Addr) (c n : Nat) (p : Int) : Fct := ⟨fun w => Rr w B A c n p, fun _ _ h hb => h.keep hb⟩
theorem grown_set {w w1 : World} {row : Option Nat} (h : w.grownBy w1 row) {p : Addr} (hp : w.heap.size ≤ p.block ∨ row = some p.block) (v : Value) : w.grownBy (w1.setCell p v) row := by
  have hb := (Below.refl p.block w1).setCell (Nat.le_refl _) v
  refine ⟨hb.os.trans h.os, hb.tape.trans h.tape, hb.output.trans h.output, Nat.le_trans h.size hb.size, fun i hi hne => (Below.heap_setCell w1 p v i ?_).trans (h.block i hi hne)⟩
  rintro rfl
  rcases hp with hp | hp
  · omega
  · exact hne hp.symm
theorem grown_on {w w1 w2 : World} {row : Option Nat} (h : w.grownBy w1 row) (hb : Below w1.heap.size w1 w2) : w.grownBy w2 row := h.trans (grown_of hb row)
theorem num_ok (B : Nat) (A : Option Addr) (c n : Nat) (l : List Int) (p W v q : Int) (w : World) (hr : Rd w A c l) (hn : l.length = n) (h : Rr w B A c n p) (hE : getE l p W = 0) (hv : getV l p W = v) (hq : getN l p W = q) : Calls Tryd.prog 53 #[.pointer (some ⟨B, 0, none⟩), .int .i64 W] w fun e w' => e = .returned (.int .i64 v) ∧ w.grownBy w' (some B) ∧ Rr w' B A c n q := by
  have HG := fun w hr => Lib.hid (get_m A n c l p W w hr hn)
  rw [hE, hv, hq] at HG
  have S0 := Lib.hid (((Sx.start w).add (fR A c l) hr).add (fQ B A c n p) h)
  clear hr h hE hv hq hn
  go_enter Tryd.func53, Tryd.ntmps53
  go_upto_region 1 with (fail)
  refine wp_region_held_drew (S := fun w' => Hid (Sx w w' [fQ B A c n p, fR A c l])) (by kernel_rfl) (Hsx.drew S0) (fun hHeld => ?_)
  refine wpAnyH_take (i := 0) (v := ?_) rfl (by kernel_rfl) (by kernel_rfl) (by kernel_rfl) (fun _ _ _ h => h) (Or.inl ⟨by rfl, ?_⟩) (by assumption) ?_
  rotate_left 1
  · intro w _; go_simp; try with_reducible rfl
  try simp only [Act.put, List.getElem_toArray, List.getElem_cons_zero, List.getElem_cons_succ, List.setIfInBounds_toArray, List.set_cons_zero, List.set_cons_succ]
  refine wpAnyH_take (i := 1) (v := ?_) rfl (by kernel_rfl) (by kernel_rfl) (by kernel_rfl) (fun _ _ _ h => h) (Or.inl ⟨by rfl, ?_⟩) (by assumption) ?_
  rotate_left 1
  · intro w _; go_simp; try with_reducible rfl
  try simp only [Act.put, List.getElem_toArray, List.getElem_cons_zero, List.getElem_cons_succ, List.setIfInBounds_toArray, List.set_cons_zero, List.set_cons_succ]
  refine wpAnyH_take (i := 2) (v := ?_) rfl (by kernel_rfl) (by kernel_rfl) (by kernel_rfl) (fun _ _ _ h => h) (Or.inl ⟨by rfl, ?_⟩) (by assumption) ?_
  rotate_left 1
  · intro w _; go_simp; try with_reducible rfl
  try simp only [Act.put, List.getElem_toArray, List.getElem_cons_zero, List.getElem_cons_succ, List.setIfInBounds_toArray, List.set_cons_zero, List.set_cons_succ]
  refine wpAnyH_take (i := 3) (v := ?_) rfl (by kernel_rfl) (by kernel_rfl) (by kernel_rfl) (fun _ _ _ h => h) (Or.inl ⟨by rfl, ?_⟩) (by assumption) ?_
  rotate_left 1
  · intro w hSw; (try dsimp only at hSw); obtain ⟨-, ⟨-, s0, s1, -⟩, -⟩ := hSw.out; go_simp; try with_reducible rfl
  try simp only [Act.put, List.getElem_toArray, List.getElem_cons_zero, List.getElem_cons_succ, List.setIfInBounds_toArray, List.set_cons_zero, List.set_cons_succ]
  refine wpAnyH_take (i := 4) (v := ?_) rfl (by kernel_rfl) (by kernel_rfl) (by kernel_rfl) (fun _ _ _ h => h) (Or.inl ⟨by rfl, ?_⟩) (by assumption) ?_
  rotate_left 1
  · intro w _; go_simp; try with_reducible rfl
  try simp only [Act.put, List.getElem_toArray, List.getElem_cons_zero, List.getElem_cons_succ, List.setIfInBounds_toArray, List.set_cons_zero, List.set_cons_succ]
  refine wpAnyH_take (i := 5) (v := ?_) rfl (by kernel_rfl) (by kernel_rfl) (by kernel_rfl) (fun _ _ _ h => h) (Or.inl ⟨by rfl, ?_⟩) (by assumption) ?_
  rotate_left 1
  · intro w _; go_simp; try with_reducible rfl
  try simp only [Act.put, List.getElem_toArray, List.getElem_cons_zero, List.getElem_cons_succ, List.setIfInBounds_toArray, List.set_cons_zero, List.set_cons_succ]
  refine wpAnyH_take (i := 6) (v := ?_) rfl (by kernel_rfl) (by kernel_rfl) (by kernel_rfl) (fun _ _ _ h => h) (Or.inl ⟨by rfl, ?_⟩) (by assumption) ?_
  rotate_left 1
  · intro w _; go_simp; try with_reducible rfl
  try simp only [Act.put, List.getElem_toArray, List.getElem_cons_zero, List.getElem_cons_succ, List.setIfInBounds_toArray, List.set_cons_zero, List.set_cons_succ]
  refine wpAnyH_take (i := 7) (v := ?_) rfl (by kernel_rfl) (by kernel_rfl) (by kernel_rfl) (fun _ _ _ h => h) (Or.inl ⟨by rfl, ?_⟩) (by assumption) ?_
  rotate_left 1
  · intro w hSw; (try dsimp only at hSw); obtain ⟨-, ⟨-, s0, s1, -⟩, -⟩ := hSw.out; go_simp; try with_reducible rfl
  try simp only [Act.put, List.getElem_toArray, List.getElem_cons_zero, List.getElem_cons_succ, List.setIfInBounds_toArray, List.set_cons_zero, List.set_cons_succ]
  refine wpAnyH_take (i := 8) (v := ?_) rfl (by kernel_rfl) (by kernel_rfl) (by kernel_rfl) (fun _ _ _ h => h) (Or.inl ⟨by rfl, ?_⟩) (by assumption) ?_
  rotate_left 1
  · intro w _; go_simp; try with_reducible rfl
  try simp only [Act.put, List.getElem_toArray, List.getElem_cons_zero, List.getElem_cons_succ, List.setIfInBounds_toArray, List.set_cons_zero, List.set_cons_succ]
  refine wpAnyH_ready (rs := [9]) (by kernel_rfl) (by simp) ?_
  refine AllReadyH.cons rfl (fun K hK => ?_) AllReadyH.nil
  go_simp
  refine (HG _ hHeld.out.2.2.1).out.mono ?_
  rintro e w1 ⟨rfl, hb⟩
  go_wp2_with fail
  refine hK.out _ _ (Hsx.call hb hHeld) (fun hHeld => ?_)
  clear hK K
  try simp only [Act.put, List.getElem_toArray, List.getElem_cons_zero, List.getElem_cons_succ, List.setIfInBounds_toArray, List.set_cons_zero, List.set_cons_succ]
  refine wpAnyH_take (i := 10) (v := ?_) rfl (by kernel_rfl) (by kernel_rfl) (by kernel_rfl) (fun _ _ _ h => h) (Or.inl ⟨by rfl, ?_⟩) (by assumption) ?_
  rotate_left 1
  · intro w _; go_simp; try with_reducible rfl
  try simp only [Act.put, List.getElem_toArray, List.getElem_cons_zero, List.getElem_cons_succ, List.setIfInBounds_toArray, List.set_cons_zero, List.set_cons_succ]
  refine wpAnyH_take (i := 11) (v := ?_) rfl (by kernel_rfl) (by kernel_rfl) (by kernel_rfl) (fun _ _ _ h => h) (Or.inl ⟨by rfl, ?_⟩) (by assumption) ?_
  rotate_left 1
  · intro w _; go_simp; try with_reducible rfl
  try simp only [Act.put, List.getElem_toArray, List.getElem_cons_zero, List.getElem_cons_succ, List.setIfInBounds_toArray, List.set_cons_zero, List.set_cons_succ]
  refine wpAnyH_take (i := 12) (v := ?_) rfl (by kernel_rfl) (by kernel_rfl) (by kernel_rfl) (fun _ _ _ h => h) (Or.inl ⟨by rfl, ?_⟩) (by assumption) ?_
  rotate_left 1
  · intro w _; go_simp; try with_reducible rfl
  try simp only [Act.put, List.getElem_toArray, List.getElem_cons_zero, List.getElem_cons_succ, List.setIfInBounds_toArray, List.set_cons_zero, List.set_cons_succ]
  refine wpAnyH_take (i := 13) (v := ?_) rfl (by kernel_rfl) (by kernel_rfl) (by kernel_rfl) (fun _ _ _ h => h) (Or.inl ⟨by rfl, ?_⟩) (by assumption) ?_
  rotate_left 1
  · intro w _; go_simp; try with_reducible rfl
  try simp only [Act.put, List.getElem_toArray, List.getElem_cons_zero, List.getElem_cons_succ, List.setIfInBounds_toArray, List.set_cons_zero, List.set_cons_succ]
  refine wpAnyH_take (i := 14) (v := ?_) rfl (by kernel_rfl) (by kernel_rfl) (by kernel_rfl) (fun _ _ _ h => h) (Or.inl ⟨by rfl, ?_⟩) (by assumption) ?_
  rotate_left 1
  · intro w _; go_simp; try with_reducible rfl
  try simp only [Act.put, List.getElem_toArray, List.getElem_cons_zero, List.getElem_cons_succ, List.setIfInBounds_toArray, List.set_cons_zero, List.set_cons_succ]
  refine wpAnyH_take (i := 15) (v := ?_) rfl (by kernel_rfl) (by kernel_rfl) (by kernel_rfl) (fun _ _ _ h => h) (Or.inl ⟨by rfl, ?_⟩) (by assumption) ?_
  rotate_left 1
  · intro w _; go_simp; try with_reducible rfl
  try simp only [Act.put, List.getElem_toArray, List.getElem_cons_zero, List.getElem_cons_succ, List.setIfInBounds_toArray, List.set_cons_zero, List.set_cons_succ]
  refine wpAnyH_take (i := 16) (v := ?_) rfl (by kernel_rfl) (by kernel_rfl) (by kernel_rfl) (fun _ _ _ h => h) (Or.inl ⟨by rfl, ?_⟩) (by assumption) ?_
  rotate_left 1
  · intro w _; go_simp; try with_reducible rfl
  try simp only [Act.put, List.getElem_toArray, List.getElem_cons_zero, List.getElem_cons_succ, List.setIfInBounds_toArray, List.set_cons_zero, List.set_cons_succ]
  refine wpAnyH_done (by kernel_rfl) ?_ _
  obtain ⟨-, hQ, -⟩ := hHeld.out
  have HQ := Lib.hid hQ
  have HB := Lib.hid hHeld.out.1
  obtain ⟨z, s0, s1, z0, z1⟩ := hQ
  clear hHeld
  go_wp2_with fail
  go_ret
  refine ⟨rfl, grown_set (grown_of HB.out _) (.inr rfl) _, HQ.out.set1 _⟩
theorem num_bad (B : Nat) (A : Option Addr) (c n : Nat) (l : List Int) (p W E : Int) (w : World) (hr : Rd w A c l) (hn : l.length = n) (h : Rr w B A c n p) (hE : getE l p W = E) (h0 : E ≠ 0) : Calls Tryd.prog 53 #[.pointer (some ⟨B, 0, none⟩), .int .i64 W] w fun e w' => e = .panicked [{ v := .iface 27 (.int .i64 E), recovered := false }] ∧ Below w.heap.size w w' := by
  have HG := fun w hr => Lib.hid (get_m A n c l p W w hr hn)
  rw [hE] at HG
  generalize getV l p W = v at *
  generalize getN l p W = q at *
  have S0 := Lib.hid (((Sx.start w).add (fR A c l) hr).add (fQ B A c n p) h)
  clear hr h hE hn
  go_enter Tryd.func53, Tryd.ntmps53
  go_upto_region 1 with (fail)
  refine wp_region_held_drew (S := fun w' => Hid (Sx w w' [fQ B A c n p, fR A c l])) (by kernel_rfl) (Hsx.drew S0) (fun hHeld => ?_)
  refine wpAnyH_take (i := 0) (v := ?_) rfl (by kernel_rfl) (by kernel_rfl) (by kernel_rfl) (fun _ _ _ h => h) (Or.inl ⟨by rfl, ?_⟩) (by assumption) ?_
  rotate_left 1
  · intro w _; go_simp; try with_reducible rfl
  try simp only [Act.put, List.getElem_toArray, List.getElem_cons_zero, List.getElem_cons_succ, List.setIfInBounds_toArray, List.set_cons_zero, List.set_cons_succ]
  refine wpAnyH_take (i := 1) (v := ?_) rfl (by kernel_rfl) (by kernel_rfl) (by kernel_rfl) (fun _ _ _ h => h) (Or.inl ⟨by rfl, ?_⟩) (by assumption) ?_
  rotate_left 1
  · intro w _; go_simp; try with_reducible rfl
  try simp only [Act.put, List.getElem_toArray, List.getElem_cons_zero, List.getElem_cons_succ, List.setIfInBounds_toArray, List.set_cons_zero, List.set_cons_succ]
  refine wpAnyH_take (i := 2) (v := ?_) rfl (by kernel_rfl) (by kernel_rfl) (by kernel_rfl) (fun _ _ _ h => h) (Or.inl ⟨by rfl, ?_⟩) (by assumption) ?_
  rotate_left 1
  · intro w _; go_simp; try with_reducible rfl
  try simp only [Act.put, List.getElem_toArray, List.getElem_cons_zero, List.getElem_cons_succ, List.setIfInBounds_toArray, List.set_cons_zero, List.set_cons_succ]
  refine wpAnyH_take (i := 3) (v := ?_) rfl (by kernel_rfl) (by kernel_rfl) (by kernel_rfl) (fun _ _ _ h => h) (Or.inl ⟨by rfl, ?_⟩) (by assumption) ?_
  rotate_left 1
  · intro w hSw; (try dsimp only at hSw); obtain ⟨-, ⟨-, s0, s1, -⟩, -⟩ := hSw.out; go_simp; try with_reducible rfl
  try simp only [Act.put, List.getElem_toArray, List.getElem_cons_zero, List.getElem_cons_succ, List.setIfInBounds_toArray, List.set_cons_zero, List.set_cons_succ]
  refine wpAnyH_take (i := 4) (v := ?_) rfl (by kernel_rfl) (by kernel_rfl) (by kernel_rfl) (fun _ _ _ h => h) (Or.inl ⟨by rfl, ?_⟩) (by assumption) ?_
  rotate_left 1
  · intro w _; go_simp; try with_reducible rfl
  try simp only [Act.put, List.getElem_toArray, List.getElem_cons_zero, List.getElem_cons_succ, List.setIfInBounds_toArray, List.set_cons_zero, List.set_cons_succ]
  refine wpAnyH_take (i := 5) (v := ?_) rfl (by kernel_rfl) (by kernel_rfl) (by kernel_rfl) (fun _ _ _ h => h) (Or.inl ⟨by rfl, ?_⟩) (by assumption) ?_
  rotate_left 1
  · intro w _; go_simp; try with_reducible rfl
  try simp only [Act.put, List.getElem_toArray, List.getElem_cons_zero, List.getElem_cons_succ, List.setIfInBounds_toArray, List.set_cons_zero, List.set_cons_succ]
  refine wpAnyH_take (i := 6) (v := ?_) rfl (by kernel_rfl) (by kernel_rfl) (by kernel_rfl) (fun _ _ _ h => h) (Or.inl ⟨by rfl, ?_⟩) (by assumption) ?_
  rotate_left 1
  · intro w _; go_simp; try with_reducible rfl
  try simp only [Act.put, List.getElem_toArray, List.getElem_cons_zero, List.getElem_cons_succ, List.setIfInBounds_toArray, List.set_cons_zero, List.set_cons_succ]
  refine wpAnyH_take (i := 7) (v := ?_) rfl (by kernel_rfl) (by kernel_rfl) (by kernel_rfl) (fun _ _ _ h => h) (Or.inl ⟨by rfl, ?_⟩) (by assumption) ?_
  rotate_left 1
  · intro w hSw; (try dsimp only at hSw); obtain ⟨-, ⟨-, s0, s1, -⟩, -⟩ := hSw.out; go_simp; try with_reducible rfl
  try simp only [Act.put, List.getElem_toArray, List.getElem_cons_zero, List.getElem_cons_succ, List.setIfInBounds_toArray, List.set_cons_zero, List.set_cons_succ]
  refine wpAnyH_take (i := 8) (v := ?_) rfl (by kernel_rfl) (by kernel_rfl) (by kernel_rfl) (fun _ _ _ h => h) (Or.inl ⟨by rfl, ?_⟩) (by assumption) ?_
  rotate_left 1
  · intro w _; go_simp; try with_reducible rfl
  try simp only [Act.put, List.getElem_toArray, List.getElem_cons_zero, List.getElem_cons_succ, List.setIfInBounds_toArray, List.set_cons_zero, List.set_cons_succ]
  refine wpAnyH_ready (rs := [9]) (by kernel_rfl) (by simp) ?_
  refine AllReadyH.cons rfl (fun K hK => ?_) AllReadyH.nil
  go_simp
  refine (HG _ hHeld.out.2.2.1).out.mono ?_
  rintro e w1 ⟨rfl, hb⟩
  go_wp2_with fail
  refine hK.out _ _ (Hsx.call hb hHeld) (fun hHeld => ?_)
  clear hK K
  try simp only [Act.put, List.getElem_toArray, List.getElem_cons_zero, List.getElem_cons_succ, List.setIfInBounds_toArray, List.set_cons_zero, List.set_cons_succ]
  refine wpAnyH_take (i := 10) (v := ?_) rfl (by kernel_rfl) (by kernel_rfl) (by kernel_rfl) (fun _ _ _ h => h) (Or.inl ⟨by rfl, ?_⟩) (by assumption) ?_
  rotate_left 1
  · intro w _; go_simp; try with_reducible rfl
  try simp only [Act.put, List.getElem_toArray, List.getElem_cons_zero, List.getElem_cons_succ, List.setIfInBounds_toArray, List.set_cons_zero, List.set_cons_succ]
  refine wpAnyH_take (i := 11) (v := ?_) rfl (by kernel_rfl) (by kernel_rfl) (by kernel_rfl) (fun _ _ _ h => h) (Or.inl ⟨by rfl, ?_⟩) (by assumption) ?_
  rotate_left 1
  · intro w _; go_simp; try with_reducible rfl
  try simp only [Act.put, List.getElem_toArray, List.getElem_cons_zero, List.getElem_cons_succ, List.setIfInBounds_toArray, List.set_cons_zero, List.set_cons_succ]
  refine wpAnyH_take (i := 12) (v := ?_) rfl (by kernel_rfl) (by kernel_rfl) (by kernel_rfl) (fun _ _ _ h => h) (Or.inl ⟨by rfl, ?_⟩) (by assumption) ?_
  rotate_left 1
  · intro w _; go_simp; try with_reducible rfl
  try simp only [Act.put, List.getElem_toArray, List.getElem_cons_zero, List.getElem_cons_succ, List.setIfInBounds_toArray, List.set_cons_zero, List.set_cons_succ]
  refine wpAnyH_take (i := 13) (v := ?_) rfl (by kernel_rfl) (by kernel_rfl) (by kernel_rfl) (fun _ _ _ h => h) (Or.inl ⟨by rfl, ?_⟩) (by assumption) ?_
  rotate_left 1
  · intro w _; go_simp; try with_reducible rfl
  try simp only [Act.put, List.getElem_toArray, List.getElem_cons_zero, List.getElem_cons_succ, List.setIfInBounds_toArray, List.set_cons_zero, List.set_cons_succ]
  refine wpAnyH_take (i := 14) (v := ?_) rfl (by kernel_rfl) (by kernel_rfl) (by kernel_rfl) (fun _ _ _ h => h) (Or.inl ⟨by rfl, ?_⟩) (by assumption) ?_
  rotate_left 1
  · intro w _; go_simp; try with_reducible rfl
  try simp only [Act.put, List.getElem_toArray, List.getElem_cons_zero, List.getElem_cons_succ, List.setIfInBounds_toArray, List.set_cons_zero, List.set_cons_succ]
  refine wpAnyH_take (i := 15) (v := ?_) rfl (by kernel_rfl) (by kernel_rfl) (by kernel_rfl) (fun _ _ _ h => h) (Or.inl ⟨by rfl, ?_⟩) (by assumption) ?_
  rotate_left 1
  · intro w _; go_simp; try with_reducible rfl
  try simp only [Act.put, List.getElem_toArray, List.getElem_cons_zero, List.getElem_cons_succ, List.setIfInBounds_toArray, List.set_cons_zero, List.set_cons_succ]
  refine wpAnyH_take (i := 16) (v := ?_) rfl (by kernel_rfl) (by kernel_rfl) (by kernel_rfl) (fun _ _ _ h => h) (Or.inl ⟨by rfl, ?_⟩) (by assumption) ?_
  rotate_left 1
  · intro w _; go_simp; try with_reducible rfl
  try simp only [Act.put, List.getElem_toArray, List.getElem_cons_zero, List.getElem_cons_succ, List.setIfInBounds_toArray, List.set_cons_zero, List.set_cons_succ]
  refine wpAnyH_done (by kernel_rfl) ?_ _
  have HB := Lib.hid hHeld.out.1
  clear hHeld
  have hcc : Tryd.prog.concrete 27 = true := by kernel_rfl
  have hne : (E == 0) = false := by simpa using h0
  go_wp2_with fail
  exact ⟨rfl, rfl, HB.out⟩
/-- Memory amid instruction: the reader at B, the instruction (o, a, 0) at I, the result's cells at Z, all else as it was. -/
def Ix (w w' : World) (B : Nat) (A : Option Addr) (c n : Nat) (q : Nat) (I Z : Nat) (o a : Int) : Prop :=
  w.grownBy w' (some B) ∧ Rr w' B A c n q ∧ In w' I o a 0 ∧ w.heap.size ≤ Z ∧ (Z ≠ I ∧ Z ≠ B) ∧ ∃ k x y, In w' Z k x y
theorem Ix.call {w w1 w2 : World} {B : Nat} {A : Option Addr} {c n q I Z : Nat} {o a : Int} (h : Ix w w1 B A c n q I Z o a) (hb : Below w1.heap.size w1 w2) : Ix w w2 B A c n q I Z o a := by
  obtain ⟨h1, h2, h3, h4, h5, k, x, y, h6⟩ := h
  exact ⟨grown_on h1 hb, h2.keep hb, h3.keep hb, h4, h5, k, x, y, h6.keep hb⟩
theorem Ix.drew1 {w w1 : World} {B : Nat} {A : Option Addr} {c n q I Z : Nat} {o a : Int} (h : Ix w w1 B A c n q I Z o a) : Hid (Ix w w1.drew B A c n q I Z o a) := Lib.hid (h.call (below_draws (Below.refl _ _) 1))
theorem In.set0 {w : World} {B : Nat} {k a b : Int} (h : In w B k a b) (k' : Int) : In (w.setCell ⟨B, 0, none⟩ (.int .u8 k')) B k' a b := by
  obtain ⟨h1, h2, h3, h4, h5, h6, h7⟩ := h
  refine ⟨by simpa using h1, ?_, ?_, ?_, ?_, ?_, ?_⟩ <;> simp [go_sem, h2, h3, h4, h5, h6, h7]
theorem Ix.put {w w1 : World} {B : Nat} {A : Option Addr} {c n q I Z : Nat} {o a : Int} (h : Ix w w1 B A c n q I Z o a) {k' a' b' : Int} : Ix w (((w1.setCell ⟨Z, 0, none⟩ (.int .u8 k')).setCell ⟨Z, 1, none⟩ (.int .i64 a')).setCell ⟨Z, 2, none⟩ (.int .i64 b')) B A c n q I Z o a := by
  obtain ⟨h1, h2, h3, h4, ⟨h5, h5'⟩, k, x, y, h6⟩ := h
  exact ⟨grown_set (grown_set (grown_set h1 (.inl h4) _) (.inl h4) _) (.inl h4) _, ((h2.other h5' _).other h5' _).other h5' _, ((h3.other h5 _).other h5 _).other h5 _, h4, ⟨h5, h5'⟩, _, _, _, ((h6.set0 k').set1 a').set2 b'⟩
theorem get1 {l : List Int} (hb : Byt l) {p : Nat} (h : p < l.length) : getE l p 1 = 0 ∧ getV l p 1 = l[p]?.getD 0 ∧ getN l p 1 = (p : Int) + 1 := by
  have e : (l.drop (p : Int).toNat).take (1 : Int).toNat = [l[p]?.getD 0] := by
    rw [Int.toNat_natCast, show (1 : Int).toNat = 1 from rfl, List.drop_eq_getElem_cons h, List.getElem?_eq_getElem h]; rfl
  have hx := hb _ (List.getElem_mem h)
  have := get_ok (l := l) (p := p) (W := 1) (by omega) (by omega) (by omega) (by omega) (by rw [e, List.getElem?_eq_getElem h]; simp [num]; omega)
  rw [e] at this
  refine ⟨this.1, this.2.1.trans ?_, this.2.2⟩
  simp [num]
theorem get2 {l : List Int} (hb : Byt l) {p : Nat} (h : p + 2 ≤ l.length) : getE l p 2 = 0 ∧ getV l p 2 = l[p]?.getD 0 + 256 * l[p + 1]?.getD 0 ∧ getN l p 2 = (p : Int) + 2 := by
  have e : (l.drop (p : Int).toNat).take (2 : Int).toNat = [l[p]?.getD 0, l[p + 1]?.getD 0] := by
    rw [Int.toNat_natCast, show (2 : Int).toNat = 2 from rfl, List.drop_eq_getElem_cons (show p < l.length by omega), List.drop_eq_getElem_cons (show p + 1 < l.length by omega), List.getElem?_eq_getElem (show p < l.length by omega), List.getElem?_eq_getElem (show p + 1 < l.length by omega)]; rfl
  have hx := hb _ (List.getElem_mem (show p < l.length by omega))
  have hy := hb _ (List.getElem_mem (show p + 1 < l.length by omega))
  have := get_ok (l := l) (p := p) (W := 2) (by omega) (by omega) (by omega) (by omega) (by rw [e, List.getElem?_eq_getElem (show p < l.length by omega), List.getElem?_eq_getElem (show p + 1 < l.length by omega)]; simp [num]; omega)
  rw [e] at this
  refine ⟨this.1, this.2.1.trans ?_, this.2.2⟩
  simp [num]
def IR (w w' : World) (B : Nat) (A : Option Addr) (c n : Nat) (l : List Int) (p : Nat) (e : Ending) : Prop := w.grownBy w' (some B) ∧
  ((e = .panicked [{ v := .iface 27 (.int .i64 10), recovered := false }] ∧ (rd1 l p).1 = 10) ∨
   ∃ (x : Ins) (v : Bool) (q : Nat), e = .returned (.tuple #[.agg #[.int .u8 x.1, .int .i64 x.2.1, .int .i64 x.2.2], .bool v]) ∧ Rr w' B A c n q ∧ InOk x ∧ q ≤ l.length ∧ (if v = true then rd1 l p = (0, x, q) else (rd1 l p).1 = 40))
theorem opM_no {o a : Int} (h : ¬ o < 33) : opM o a 0 = false := by
  cases hv : opM o a 0 with
  | false => rfl
  | true => have := (opM_bd (x := (o, a, 0)) hv).2.2; omega
set_option maxHeartbeats 4000000 in
theorem instr_any (B : Nat) (A : Option Addr) (c n : Nat) (l : List Int) (p : Nat) (w : World) (hr : Rd w A c l) (hn : l.length = n) (hp : p ≤ l.length) (h : Rr w B A c n p) (hA : ∀ ad, A = some ad → 0 < l.length → some ad.block ≠ some B) : Calls Tryd.prog 54 #[.pointer (some ⟨B, 0, none⟩)] w fun e w' => IR w w' B A c n l p e := by
  have HR := Lib.hid hr
  have HBY := Lib.hid hr.byt
  have hB := h.1
  have hQ0 := Lib.hid (h.keep (new1 (a := .cells #[.int .u8 0, .int .i64 0, .int .i64 0] 47)))
  have HA := Lib.hid hA
  clear hA h
  by_cases h1 : p < l.length
  · obtain ⟨o, ho⟩ : ∃ o, l[p]?.getD 0 = o := ⟨_, rfl⟩
    have hoB := hr.byte p
    rw [ho] at hoB
    obtain ⟨e1, e2, e3⟩ := get1 hr.byt h1
    rw [ho] at e2
    have K1 := fun w hr h => Lib.hid (num_ok B A c n l p 1 o (p + 1) w hr hn h e1 e2 e3)
    have HO := Lib.hid ho
    clear e1 e2 e3 hr ho
    have hmod : o % 256 = o := by omega
    go_enter Tryd.func54, Tryd.ntmps54
    go_wp2_with fail
    refine (K1 _ (HR.out.alloc _) hQ0.out).out.mono ?_
    rintro e w2 ⟨rfl, hg2, hq2⟩
    have HG2 := Lib.hid (show w.grownBy w2 (some B) from (grown_of new1 _).trans hg2)
    have HZ2 := Lib.hid ((In.new w 0 0 0).grown hg2 (fun e => by injection e with e; omega))
    have HQ2 := Lib.hid (hq2.keep (new1 (a := .cells #[.int .u8 o, .int .i64 0, .int .i64 0] 47)))
    have HI2 := Lib.hid (In.new w2 o 0 0)
    have hsz2 : w.heap.size + 1 ≤ w2.heap.size := by have := hg2.size; simpa using this
    have HR2 := Lib.hid ((HR.out.grown HG2.out (fun ad e h => HA.out ad e h)).alloc (.cells #[.int .u8 o, .int .i64 0, .int .i64 0] 47))
    have HG3 := Lib.hid (grown_on HG2.out (new1 (a := .cells #[.int .u8 o, .int .i64 0, .int .i64 0] 47)))
    have HZ3 := Lib.hid (HZ2.out.keep (new1 (a := .cells #[.int .u8 o, .int .i64 0, .int .i64 0] 47)))
    clear hg2 hq2 HG2 HZ2
    cases hw : wdB o with
    | false =>
      obtain ⟨v, hv⟩ : ∃ v, opM o 0 0 = v := ⟨_, rfl⟩
      have HV := Lib.hid hv
      have HN : Hid (if v = true then rd1 l p = (0, (o, 0, 0), p + 1) else (rd1 l p).1 = 40) := by
        rw [Hid]
        by_cases h33 : o < 33
        · rw [rd1_slim (v := v) h1 (by rw [HO.out]; exact h33) (by rw [HO.out]; exact hw) (by rw [HO.out]; exact hv), HO.out]
          cases v <;> rfl
        · have : v = false := by rw [← hv]; exact opM_no h33
          subst this
          rw [if_neg (by decide), rd1_op h1 (by rw [HO.out]; exact h33)]
      clear hv
      have HOK : Hid (InOk (o, 0, 0)) := ⟨hoB, by simp, by simp⟩
      go_wp2_with fail
      refine (hasop_v _ _ _ hw).mono ?_
      rintro e w3 ⟨rfl, rfl⟩
      clear hw
      go_upto_region 4 with (fail)
      obtain ⟨q, hq⟩ : ∃ q, p + 1 = q := ⟨_, rfl⟩
      have HQ3 : Hid (Rr (w2.alloc (.cells #[.int .u8 o, .int .i64 0, .int .i64 0] 47)) B A c n q) := by rw [← hq]; exact HQ2.out
      rw [hq] at HN
      have HQL : Hid (q ≤ l.length) := by rw [← hq]; exact h1
      have HX : Hid (Ix w (w2.alloc (.cells #[.int .u8 o, .int .i64 0, .int .i64 0] 47)) B A c n q w2.heap.size w.heap.size o 0) := ⟨HG3.out, HQ3.out, HI2.out, Nat.le_refl _, ⟨by omega, by omega⟩, 0, 0, 0, HZ3.out⟩
      clear HQ2 HQ3 HG3 HZ3 HI2 HR2 hq h1 hp
      generalize w2.alloc (.cells #[.int .u8 o, .int .i64 0, .int .i64 0] 47) = wx at *
      obtain ⟨a, ha⟩ : ∃ a : Int, a = 0 := ⟨_, rfl⟩
      replace HX : Hid (Ix w wx B A c n q w2.heap.size w.heap.size o a) := by rw [ha]; exact HX
      replace HV : Hid (opM o a 0 = v) := by rw [ha]; exact HV
      replace HN : Hid (if v = true then rd1 l p = (0, (o, a, 0), q) else (rd1 l p).1 = 40) := by rw [ha]; exact HN
      replace HOK : Hid (InOk (o, a, 0)) := by rw [ha]; exact HOK
      clear ha
      refine wp_region_held_drew (S := fun w' => Hid (Ix w w' B A c n q w2.heap.size w.heap.size o a)) (by kernel_rfl) (Ix.drew1 HX.out) (fun hHeld => ?_)
      refine wpAnyH_take (i := 0) (v := ?_) rfl (by kernel_rfl) (by kernel_rfl) (by kernel_rfl) (fun _ _ _ h => h) (Or.inl ⟨by rfl, ?_⟩) (by assumption) ?_
      rotate_left 1
      · intro w hSw; (try dsimp only at hSw); obtain ⟨-, -, ⟨-, s0, s1, s2, -⟩, -⟩ := hSw.out; go_simp; try with_reducible rfl
      try simp only [Act.put, List.getElem_toArray, List.getElem_cons_zero, List.getElem_cons_succ, List.setIfInBounds_toArray, List.set_cons_zero, List.set_cons_succ]
      refine wpAnyH_take (i := 1) (v := ?_) rfl (by kernel_rfl) (by kernel_rfl) (by kernel_rfl) (fun _ _ _ h => h) (Or.inl ⟨by rfl, ?_⟩) (by assumption) ?_
      rotate_left 1
      · intro w hSw; (try dsimp only at hSw); obtain ⟨-, -, ⟨-, s0, s1, s2, -⟩, -⟩ := hSw.out; go_simp; try with_reducible rfl
      try simp only [Act.put, List.getElem_toArray, List.getElem_cons_zero, List.getElem_cons_succ, List.setIfInBounds_toArray, List.set_cons_zero, List.set_cons_succ]
      refine wpAnyH_ready (rs := [2]) (by kernel_rfl) (by simp) ?_
      refine AllReadyH.cons rfl (fun K hK => ?_) AllReadyH.nil
      go_simp
      refine (omay_v o a 0 v _ HV.out).mono ?_
      rintro e w7 ⟨rfl, hb⟩
      go_wp2_with fail
      refine hK.out _ _ (Lib.hid (hHeld.out.call hb)) (fun hHeld => ?_)
      clear hK K
      try simp only [Act.put, List.getElem_toArray, List.getElem_cons_zero, List.getElem_cons_succ, List.setIfInBounds_toArray, List.set_cons_zero, List.set_cons_succ]
      refine wpAnyH_ready (rs := [3]) (by kernel_rfl) (by simp) ?_
      refine AllReadyH.cons rfl (fun K hK => ?_) AllReadyH.nil
      obtain ⟨-, -, ⟨-, q0, q1, q2, -⟩, -, -, k', x', y', ⟨y0, y1, y2, y3, y4, y5, y6⟩⟩ := hHeld.out
      go_simp
      refine hK.out _ _ (Lib.hid hHeld.out.put) (fun hHeld => ?_)
      clear hK K
      try simp only [Act.put, List.getElem_toArray, List.getElem_cons_zero, List.getElem_cons_succ, List.setIfInBounds_toArray, List.set_cons_zero, List.set_cons_succ]
      refine wpAnyH_take (i := 4) (v := ?_) rfl (by kernel_rfl) (by kernel_rfl) (by kernel_rfl) (fun _ _ _ h => h) (Or.inl ⟨by rfl, ?_⟩) (by assumption) ?_
      rotate_left 1
      · intro w _; go_simp; try with_reducible rfl
      try simp only [Act.put, List.getElem_toArray, List.getElem_cons_zero, List.getElem_cons_succ, List.setIfInBounds_toArray, List.set_cons_zero, List.set_cons_succ]
      refine wpAnyH_done (by kernel_rfl) ?_ _
      obtain ⟨hg, hq, -⟩ := hHeld.out
      have HG := Lib.hid hg
      have HQ := Lib.hid hq
      clear hHeld hg hq
      go_wp2_with fail
      exact bodyPost_ret (v := .tuple #[.agg #[.int .u8 o, .int .i64 a, .int .i64 0], .bool v]) (by simp [results, Tryd.results54, go_sem, y1, y2, y3]) rfl ⟨HG.out, .inr ⟨(o, a, 0), v, q, rfl, HQ.out, HOK.out, HQL.out, HN.out⟩⟩
    | true =>
      have h33 : o < 33 := Int.not_le.1 fun hge => by
        have h2 : ¬ o < 33 := by omega
        revert hw
        unfold wdB opHi
        repeat' split
        all_goals first | omega | simp
      by_cases h2 : p + 3 ≤ l.length
      · obtain ⟨a, ha⟩ : ∃ a, l[p + 1]?.getD 0 + 256 * l[p + 1 + 1]?.getD 0 = a := ⟨_, rfl⟩
        have b1 := HR.out.byte (p + 1)
        have b2 := HR.out.byte (p + 1 + 1)
        obtain ⟨e1, e2, e3⟩ := get2 HBY.out (p := p + 1) (by omega)
        rw [ha] at e2
        rw [show (((p + 1 : Nat) : Int)) = (p : Int) + 1 by omega] at e1 e2 e3
        have K2 := fun w hr h => Lib.hid (num_ok B A c n l (p + 1) 2 a (p + 1 + 2) w hr hn h e1 e2 e3)
        have haB : 0 ≤ a ∧ a < 65536 := by omega
        obtain ⟨v, hv⟩ : ∃ v, opM o a 0 = v := ⟨_, rfl⟩
        have HV := Lib.hid hv
        have HN : Hid (if v = true then rd1 l p = (0, (o, a, 0), p + 3) else (rd1 l p).1 = 40) := by
          rw [Hid, rd1_wide (v := v) (by rw [HO.out]; exact h33) (by rw [HO.out]; exact hw) h2 (by rw [HO.out]; exact (by rw [ha]; exact hv)), HO.out, show p + 2 = p + 1 + 1 from rfl, ha]
          cases v <;> rfl
        clear hv e1 e2 e3 ha b1 b2
        have HOK : Hid (InOk (o, a, 0)) := ⟨hoB, by simp; omega, by simp⟩
        go_wp2_with fail
        refine (hasop_v _ _ _ hw).mono ?_
        rintro e w3 ⟨rfl, rfl⟩
        clear hw
        go_wp2_with fail
        refine (K2 _ HR2.out HQ2.out).out.mono ?_
        rintro e w4 ⟨rfl, hg4, hq4⟩
        have HG4 := Lib.hid (HG3.out.trans hg4)
        have HZ4 := Lib.hid (HZ3.out.grown hg4 (fun e => by injection e with e; omega))
        have HI4 := Lib.hid (HI2.out.grown hg4 (fun e => by injection e with e; omega))
        have HQ4 := Lib.hid hq4
        clear hg4 hq4 HG3 HZ3 HI2 HQ2 HR2 K1 K2
        obtain ⟨-, z0, z1, z2, z3, z4, z5⟩ := HI4.out
        go_upto_region 4 with (fail)
        obtain ⟨q, hq⟩ : ∃ q, p + 3 = q := ⟨_, rfl⟩
        have HQ5 : Hid (Rr w4 B A c n q) := by rw [← hq]; have := HQ4.out; rwa [show (p : Int) + 1 + 2 = ((p + 3 : Nat) : Int) by omega] at this
        rw [hq] at HN
        have HQL : Hid (q ≤ l.length) := by rw [← hq]; exact h2
        have HX : Hid (Ix w (w4.setCell ⟨w2.heap.size, 1, none⟩ (.int .i64 a)) B A c n q w2.heap.size w.heap.size o a) := ⟨grown_set HG4.out (.inl (by simp; omega)) _, HQ5.out.other (by simp; omega) _, HI4.out.set1 a, Nat.le_refl _, ⟨by omega, by omega⟩, 0, 0, 0, HZ4.out.other (by simp; omega) _⟩
        clear HQ4 HQ5 HG4 HZ4 HI4 hq h1 hp h2 z0 z1 z2 z3 z4 z5
        generalize w4.setCell ⟨w2.heap.size, 1, none⟩ (.int .i64 a) = wx at *
        refine wp_region_held_drew (S := fun w' => Hid (Ix w w' B A c n q w2.heap.size w.heap.size o a)) (by kernel_rfl) (Ix.drew1 HX.out) (fun hHeld => ?_)
        refine wpAnyH_take (i := 0) (v := ?_) rfl (by kernel_rfl) (by kernel_rfl) (by kernel_rfl) (fun _ _ _ h => h) (Or.inl ⟨by rfl, ?_⟩) (by assumption) ?_
        rotate_left 1
        · intro w hSw; (try dsimp only at hSw); obtain ⟨-, -, ⟨-, s0, s1, s2, -⟩, -⟩ := hSw.out; go_simp; try with_reducible rfl
        try simp only [Act.put, List.getElem_toArray, List.getElem_cons_zero, List.getElem_cons_succ, List.setIfInBounds_toArray, List.set_cons_zero, List.set_cons_succ]
        refine wpAnyH_take (i := 1) (v := ?_) rfl (by kernel_rfl) (by kernel_rfl) (by kernel_rfl) (fun _ _ _ h => h) (Or.inl ⟨by rfl, ?_⟩) (by assumption) ?_
        rotate_left 1
        · intro w hSw; (try dsimp only at hSw); obtain ⟨-, -, ⟨-, s0, s1, s2, -⟩, -⟩ := hSw.out; go_simp; try with_reducible rfl
        try simp only [Act.put, List.getElem_toArray, List.getElem_cons_zero, List.getElem_cons_succ, List.setIfInBounds_toArray, List.set_cons_zero, List.set_cons_succ]
        refine wpAnyH_ready (rs := [2]) (by kernel_rfl) (by simp) ?_
        refine AllReadyH.cons rfl (fun K hK => ?_) AllReadyH.nil
        go_simp
        refine (omay_v o a 0 v _ HV.out).mono ?_
        rintro e w7 ⟨rfl, hb⟩
        go_wp2_with fail
        refine hK.out _ _ (Lib.hid (hHeld.out.call hb)) (fun hHeld => ?_)
        clear hK K
        try simp only [Act.put, List.getElem_toArray, List.getElem_cons_zero, List.getElem_cons_succ, List.setIfInBounds_toArray, List.set_cons_zero, List.set_cons_succ]
        refine wpAnyH_ready (rs := [3]) (by kernel_rfl) (by simp) ?_
        refine AllReadyH.cons rfl (fun K hK => ?_) AllReadyH.nil
        obtain ⟨-, -, ⟨-, q0, q1, q2, -⟩, -, -, k', x', y', ⟨y0, y1, y2, y3, y4, y5, y6⟩⟩ := hHeld.out
        go_simp
        refine hK.out _ _ (Lib.hid hHeld.out.put) (fun hHeld => ?_)
        clear hK K
        try simp only [Act.put, List.getElem_toArray, List.getElem_cons_zero, List.getElem_cons_succ, List.setIfInBounds_toArray, List.set_cons_zero, List.set_cons_succ]
        refine wpAnyH_take (i := 4) (v := ?_) rfl (by kernel_rfl) (by kernel_rfl) (by kernel_rfl) (fun _ _ _ h => h) (Or.inl ⟨by rfl, ?_⟩) (by assumption) ?_
        rotate_left 1
        · intro w _; go_simp; try with_reducible rfl
        try simp only [Act.put, List.getElem_toArray, List.getElem_cons_zero, List.getElem_cons_succ, List.setIfInBounds_toArray, List.set_cons_zero, List.set_cons_succ]
        refine wpAnyH_done (by kernel_rfl) ?_ _
        obtain ⟨hg, hq, -⟩ := hHeld.out
        have HG := Lib.hid hg
        have HQ := Lib.hid hq
        clear hHeld hg hq
        go_wp2_with fail
        exact bodyPost_ret (v := .tuple #[.agg #[.int .u8 o, .int .i64 a, .int .i64 0], .bool v]) (by simp [results, Tryd.results54, go_sem, y1, y2, y3]) rfl ⟨HG.out, .inr ⟨(o, a, 0), v, q, rfl, HQ.out, HOK.out, HQL.out, HN.out⟩⟩
      · have e1 := get_short (l := l) (p := (p : Int) + 1) (W := 2) (by omega) (by omega) (by omega) (by omega)
        have K2 := fun w hr h => Lib.hid (num_bad B A c n l (p + 1) 2 10 w hr hn h e1 (by decide))
        have HN : Hid ((rd1 l p).1 = 10) := by rw [Hid, rd1_few h1 (by rw [HO.out]; exact h33) (by rw [HO.out]; exact hw) (by omega)]
        clear e1
        go_wp2_with fail
        refine (hasop_v _ _ _ hw).mono ?_
        rintro e w3 ⟨rfl, rfl⟩
        clear hw
        go_wp2_with fail
        refine (K2 _ HR2.out HQ2.out).out.mono ?_
        rintro e w4 ⟨rfl, hb4⟩
        have HG4 := Lib.hid (grown_on HG3.out hb4)
        clear hb4
        go_wp2_with fail
        exact ⟨rfl, HG4.out, .inl ⟨rfl, HN.out⟩⟩
  · have e1 := get_short (l := l) (p := (p : Int)) (W := 1) (by omega) (by omega) (by omega) (by omega)
    have K2 := fun w hr h => Lib.hid (num_bad B A c n l p 1 10 w hr hn h e1 (by decide))
    have HN : Hid ((rd1 l p).1 = 10) := by rw [Hid, rd1_short (by omega)]
    clear e1 hr
    go_enter Tryd.func54, Tryd.ntmps54
    go_wp2_with fail
    refine (K2 _ (HR.out.alloc _) hQ0.out).out.mono ?_
    rintro e w2 ⟨rfl, hb4⟩
    have HG4 := Lib.hid ((grown_of (new1 (w := w) (a := .cells #[.int .u8 0, .int .i64 0, .int .i64 0] 47)) (some B)).trans (grown_of hb4 _))
    clear hb4
    go_wp2_with fail
    exact ⟨rfl, HG4.out, .inl ⟨rfl, HN.out⟩⟩
end Go.Proofs.YthmfjdafmnmgiaaDoor
