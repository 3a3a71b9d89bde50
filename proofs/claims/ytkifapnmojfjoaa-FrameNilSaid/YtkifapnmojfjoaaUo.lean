/-
  Layer 16: the program's own frame in memory; made, local, possible, Get, Size, Place, Go.
-/
import Derived.Test.YtkifapnmojfjoaaUg
import Derived.LaidEqlPtr
import Derived.Maps.OwnSet
import Derived.Maps.OwnOps
import Derived.Maps.Ext
namespace Go.Proofs.Ytkifapnmojfjoaa
open Go.RowKit Go.Maps
set_option maxRecDepth 100000
set_option linter.unusedSimpArgs false
set_option linter.unusedVariables false

/-- The cells of a frame. -/
def pc16 (s : Value) (L : List Vlu) (n : Int) (S : Value) (p : Int) (M : Nat) : Array Value := (s :: (cev L ++ [.int .i64 n, S, .int .i64 p, .map (some M)])).toArray
section
variable {s S : Value} {L : List Vlu} {n p : Int} {M k : Nat} {x : Vlu}
theorem pc16_s : (pc16 s L n S p M)[0]? = some s := by simp [pc16]
theorem pc16_l (h : L[k]? = some x) : (pc16 s L n S p M)[1 + k * 3]? = some (.int .u8 x.1) ∧ (pc16 s L n S p M)[1 + k * 3 + 1]? = some (.int .i64 x.2.1) ∧ (pc16 s L n S p M)[1 + k * 3 + 2]? = some (.int .i64 x.2.2) := by
  obtain ⟨h0, h1, h2⟩ := cev_at h
  have hl := (List.getElem?_eq_some_iff.1 h).1
  have e : ∀ j, j < L.length * 3 → (pc16 s L n S p M)[1 + j]? = (cev L)[j]? := fun j hj => by
    rw [pc16, List.getElem?_toArray, Nat.add_comm, List.getElem?_cons_succ, List.getElem?_append_left (by rw [length_cev]; exact hj)]
  refine ⟨?_, ?_, ?_⟩
  · rw [e _ (by omega), h0]
  · rw [Nat.add_assoc, e _ (by omega), h1]
  · rw [Nat.add_assoc, e _ (by omega), h2]
theorem pc16_e (h : L.length = 16) {j : Nat} : (pc16 s L n S p M)[49 + j]? = [Value.int .i64 n, S, .int .i64 p, .map (some M)][j]? := by
  rw [pc16, List.getElem?_toArray, show 49 + j = (48 + j) + 1 by omega, List.getElem?_cons_succ, List.getElem?_append_right (by rw [length_cev]; omega), length_cev, show 48 + j - L.length * 3 = j by omega]
theorem pc16_set (h : L.length = 16) {j : Nat} (u : Value) : (pc16 s L n S p M).setIfInBounds (49 + j) u = (s :: (cev L ++ [Value.int .i64 n, S, .int .i64 p, .map (some M)].set j u)).toArray := by
  rw [pc16, List.setIfInBounds_toArray, show 49 + j = (48 + j) + 1 by omega, List.set_cons_succ, List.set_append_right _ _ (by rw [length_cev]; omega), length_cev, show 48 + j - L.length * 3 = j by omega]
end
theorem Try.infoF16 : (Try.prog.info? 47).map (fun i => i.size) = some 53 := by kernel_rfl
theorem eqp16 (B : Nat) (w : World) : (binOp .eql 25 (.pointer (some ⟨B, 0, none⟩)) (.pointer (some ⟨B, 0, none⟩))).run Try.prog w = .ok (.bool true) w := by
  obtain ⟨j, hj, -⟩ := Option.map_eq_some_iff.1 Try.infoF16
  exact run_eql_ptr_same w _ Try.underlying25 hj
theorem run_eql_nil_ptr16 {P : Program} (w : World) {tp te : TypeId} {a : Addr} (hp : P.underlying tp = some (.pointer te)) : (binOp .eql tp (.pointer none) (.pointer (some a))).run P w = .ok (.bool false) w := by
  have h : ∀ d : Nat, (Op.equalIn (d + 1) tp (.pointer none) (.pointer (some a))).run P w = .ok false w := fun d => by
    simp [Op.equalIn, run_underlying hp]
  simp only [binOp]
  simp [Op.equal, Op.maxDepth, h 9999]
theorem eqn16 (B : Nat) (w : World) : (binOp .eql 25 (.pointer none) (.pointer (some ⟨B, 0, none⟩))).run Try.prog w = .ok (.bool false) w := run_eql_nil_ptr16 w Try.underlying25
theorem pmade_v (B : Nat) (w : World) (b0 : w.cell? ⟨B, 0, none⟩ = some (.pointer (some ⟨B, 0, none⟩))) :
    Calls Try.prog 31 #[.pointer (some ⟨B, 0, none⟩)] w fun e w' => e = .returned (.bool true) ∧ w' = w := by
  have hl := cell_lt b0
  have hq := eqp16 B w
  go_enter Try.func31, Try.ntmps31
  go_wp2_with fail
  go_ret
  exact ⟨rfl, rfl⟩
theorem pmade_nil (w : World) :
    Calls Try.prog 31 #[.pointer none] w fun e w' => e = .returned (.bool false) ∧ w' = w := by
  go_enter Try.func31, Try.ntmps31
  go_wp2_with fail
  go_ret
  exact ⟨rfl, rfl⟩
theorem pmade_empty (B : Nat) (w : World) (b0 : w.cell? ⟨B, 0, none⟩ = some (.pointer none)) :
    Calls Try.prog 31 #[.pointer (some ⟨B, 0, none⟩)] w fun e w' => e = .returned (.bool false) ∧ w' = w := by
  have hl := cell_lt b0
  have hq := eqn16 B w
  go_enter Try.func31, Try.ntmps31
  go_wp2_with fail
  go_ret
  exact ⟨rfl, rfl⟩
theorem ppossible_v (k : Int) (w : World) : Calls Try.prog 33 #[.int .u8 k] w fun e w' => e = .returned (.bool (kd16 k)) ∧ w' = w := by
  by_cases h1 : k = 1
  · subst h1
    go_enter Try.func33, Try.ntmps33
    go_wp2_with fail
    go_ret
    exact ⟨rfl, rfl⟩
  · by_cases h2 : k = 2
    · subst h2
      go_enter Try.func33, Try.ntmps33
      go_wp2_with fail
      go_ret
      exact ⟨rfl, rfl⟩
    · have e1 : (k == 1) = false := by simpa using h1
      have e2 : (k == 2) = false := by simpa using h2
      have HK : Hid (kd16 k = (k == 3)) := by rw [Hid, kd16, e1, e2]; rfl
      clear h1 h2
      go_enter Try.func33, Try.ntmps33
      go_wp2_with fail
      go_ret
      rw [HK.out]
      exact ⟨rfl, rfl⟩
theorem plocal_yes (B k n : Nat) (w : World) (b0 : w.cell? ⟨B, 0, none⟩ = some (.pointer (some ⟨B, 0, none⟩))) (b1 : w.cell? ⟨B, 49, none⟩ = some (.int .i64 n)) (hk : k < n) (hn : n ≤ 16) :
    Calls Try.prog 32 #[.pointer (some ⟨B, 0, none⟩), .int .i64 k] w fun e w' => e = .returned (.pointer (some ⟨B, 1 + k * 3, none⟩)) ∧ w' = w := by
  have hl := cell_lt b0
  have g1 : decide ((k : Int) < 0) = false := decide_eq_false (by omega)
  have g2 : decide ((n : Int) ≤ k) = false := decide_eq_false (by omega)
  have H0 := Lib.hid b0
  go_enter Try.func32, Try.ntmps32
  go_wp2_with fail
  refine (pmade_v B w H0.out).mono ?_
  rintro e w1 ⟨rfl, rfl⟩
  go_wp2_with fail
  go_ret
  exact ⟨rfl, rfl⟩
theorem plocal_no (B n : Nat) (i : Int) (w : World) (b0 : w.cell? ⟨B, 0, none⟩ = some (.pointer (some ⟨B, 0, none⟩))) (b1 : w.cell? ⟨B, 49, none⟩ = some (.int .i64 n)) (hk : i < 0 ∨ (n : Int) ≤ i) :
    Calls Try.prog 32 #[.pointer (some ⟨B, 0, none⟩), .int .i64 i] w fun e w' => e = .returned (.pointer none) ∧ w' = w := by
  have hl := cell_lt b0
  have H0 := Lib.hid b0
  by_cases h : i < 0
  · have g1 : decide (i < 0) = true := decide_eq_true h
    go_enter Try.func32, Try.ntmps32
    go_wp2_with fail
    refine (pmade_v B w H0.out).mono ?_
    rintro e w1 ⟨rfl, rfl⟩
    go_wp2_with fail
    go_ret
    exact ⟨rfl, rfl⟩
  · have g1 : decide (i < 0) = false := decide_eq_false h
    have g2 : decide ((n : Int) ≤ i) = true := decide_eq_true (by omega)
    have h2 : (n : Int) ≤ i := by omega
    go_enter Try.func32, Try.ntmps32
    go_wp2_with fail
    refine (pmade_v B w H0.out).mono ?_
    rintro e w1 ⟨rfl, rfl⟩
    go_wp2_with fail
    go_ret
    exact ⟨rfl, rfl⟩
end Go.Proofs.Ytkifapnmojfjoaa
