/-
  What package flow's functions are to answer; the law's awake.
-/
import Derived.Test.YtfchdggefedgoaaFr
namespace Go.Proofs.Ytfchdggefedgoaa
open Go.RowKit
set_option maxRecDepth 100000
set_option linter.unusedSimpArgs false
set_option linter.unusedVariables false

/-- The cells of integers. -/
def ci9 (L : List Int) : List Value := L.map (Value.int .i64)
theorem Rn.of_own {w : World} {A : Option Addr} {c base e n : Nat} {L : List Int} (h : w.ownsRow base e 1 (.slice A n c) n (ci9 L)) : Rn w A c L ∧ n = L.length := by
  have hn : n = L.length := by have := h.1; simp [ci9] at this; omega
  refine ⟨?_, hn⟩
  have hcell := fun g => h.cells (g := g)
  rcases h.2 with ⟨hv, h0⟩ | ⟨g, cap, cur, hv, _, _, hcap, hm, _⟩
  · injection hv with e1 e2 e3
    exact ⟨by omega, by omega, .inl ⟨e1, e3⟩⟩
  · injection hv with e1 e2 e3
    subst e1 e3
    exact ⟨by omega, hm, .inr ⟨_, rfl, fun i x hx => hcell g rfl _ _ (by simp [ci9, hx])⟩⟩
def KFLoops : Prop := ∀ (A : Option Addr) (c m : Nat) (L : List Ins) (w : World), Ri w A c L → L.length = m → m ≤ 300 → Calls Try.prog 11 #[.slice A m c] w fun r w' => ∃ A' c', r = .returned (.tuple #[.slice A' (flL9 L).length c', .int .i64 (flE9 L)]) ∧
  w'.ownsRow w.heap.size 40 3 (.slice A' (flL9 L).length c') (flL9 L).length (cej (flL9 L)) ∧ Below w.heap.size w w'
def KFTimes : Prop := ∀ (A : Option Addr) (c m : Nat) (L : List Ins) (w : World), Ri w A c L → L.length = m → m ≤ 300 → Calls Try.prog 12 #[.slice A m c] w fun r w' => ∃ A' c', r = .returned (.tuple #[.slice A' (flT9 L).length c', .int .i64 (flE9 L)]) ∧
  w'.ownsRow w.heap.size 3 1 (.slice A' (flT9 L).length c') (flT9 L).length (ci9 (flT9 L)) ∧ Below w.heap.size w w'
def KFWays : Prop := ∀ (A : Option Addr) (c m : Nat) (L : List Ins) (a : Int) (w : World), Ri w A c L → L.length = m → m ≤ 300 → Calls Try.prog 17 #[.slice A m c, .int .i64 a] w fun r w' => ∃ A' c', r = .returned (.tuple #[.slice A' (flW9 L a).1.length c', .int .i64 (flW9 L a).2]) ∧
  w'.ownsRow w.heap.size 3 1 (.slice A' (flW9 L a).1.length c') (flW9 L a).1.length (ci9 (flW9 L a).1) ∧ Below w.heap.size w w'
def KFCheck : Prop := ∀ (A : Option Addr) (c m : Nat) (L : List Ins) (w : World), Ri w A c L → L.length = m → m ≤ 300 → Calls Try.prog 13 #[.slice A m c] w fun r w' => r = .returned (.int .i64 (flE9 L)) ∧ Below w.heap.size w w'
theorem row9_lit (L : List Ins) (w : World) (n : Nat) (cs : Array Value) (t : Nat) (hcs : cs = ((two9 L).map (Value.int .i64)).toArray) (hn : 2 * L.length = n) (hl : n ≤ 1000) (hok : ∀ x ∈ L, InOk x ∧ x.2.2 = 0) :
    Calls Try.prog 32 #[.slice (some ⟨w.heap.size, 0, none⟩) n n] (w.alloc (.cells cs t)) fun r w' => ∃ A' c', r = .returned (.slice A' L.length c') ∧ Ri w' A' c' L ∧ Below w.heap.size w w' := by
  subst hcs
  have h := Rn.new w (two9 L) t (by rw [two9_len]; unfold maxLen; omega)
  rw [two9_len, hn] at h
  refine (row9_v _ n n L _ h hn hl hok).mono ?_
  rintro r w' ⟨A', c', rfl, ho, hb⟩
  exact ⟨A', c', rfl, (Ri.of_own ho (fun x hx => (hok x hx).1)).1, new1.trans (hb.mono (by rw [size1]; omega))⟩
/-- A block's cells from its beginning on. -/
def Cl9 (w : World) (g : Nat) (xs : List Value) : Prop := g < w.heap.size ∧ ∀ i u, xs[i]? = some u → w.cell? ⟨g, i, none⟩ = some u
theorem Cl9.keep {w w' : World} {g : Nat} {xs : List Value} (h : Cl9 w g xs) (hb : Below w.heap.size w w') : Cl9 w' g xs := ⟨Nat.lt_of_lt_of_le h.1 hb.size, fun i u hu => ((bcell hb).1 _ _ h.1).trans (h.2 i u hu)⟩
abbrev fCl (g : Nat) (xs : List Value) : Fct := ⟨fun w => Cl9 w g xs, fun _ _ h hb => h.keep hb⟩
theorem Cl9.of_own {w : World} {base e size n c : Nat} {A : Option Addr} {xs : List Value} (h : w.ownsRow base e size (.slice A n c) n xs) (hn : 0 < n) : ∃ g, A = some ⟨g, 0, none⟩ ∧ Cl9 w g xs := by
  have hc := fun g => h.cells (g := g)
  rcases h.2 with ⟨hv, h0⟩ | ⟨g, cap, cur, hv, _, hb, _⟩
  · omega
  · injection hv with e1 e2 e3
    subst e1
    exact ⟨g, rfl, (Array.getElem?_eq_some_iff.1 hb).1, fun i u hu => by
      have := hc g rfl i u hu
      have e : (⟨g, 0, none⟩ : Addr).add i = ⟨g, i, none⟩ := by
        unfold Addr.add
        split
        · rename_i h0; simp [h0]
        · simp
      rwa [e] at this⟩
def three9 : List Ins := [(28, 3, 0), (0, 0, 0), (29, 0, 0), (31, 0, 0)]
set_option maxHeartbeats 8000000 in
theorem awake9_any (KL : KFLoops) (KT : KFTimes) (KW : KFWays) (KC : KFCheck) (w : World) : Calls Try.prog 18 #[] w fun r w' => r = .returned (.bool true) ∧ Below w.heap.size w w' := by
  have B1 : Hid (flE9 three9 = 0 ∧ flL9 three9 = [(0, 2, 3)] ∧ flT9 three9 = [1, 3, 3, 1] ∧ flW9 three9 2 = ([1, 3], 0)) := by unfold Hid; decide
  have E1 : Hid (flE9 [(26, 1, 0), (31, 0, 0)] = 0) := by unfold Hid; decide
  have E2 : Hid (flE9 [(26, 0, 0), (31, 0, 0)] = 90) := by unfold Hid; decide
  have E3 : Hid (flE9 [(26, 2, 0), (31, 0, 0)] = 90) := by unfold Hid; decide
  have E4 : Hid (flE9 [(27, 2, 0), (28, 3, 0), (29, 1, 0), (31, 0, 0)] = 90) := by unfold Hid; decide
  have E5 : Hid (flE9 [(28, 3, 0), (26, 3, 0), (29, 0, 0), (31, 0, 0)] = 0) := by unfold Hid; decide
  have E6 : Hid (flE9 [(0, 0, 0)] = 90) := by unfold Hid; decide
  go_enter Try.func18, Try.ntmps18
  go_wp2_with fail
  refine (row9_lit three9 _ 8 _ _ rfl rfl (by omega) (by unfold three9 InOk; decide)).mono ?_
  rintro r w1 ⟨A1, c1, rfl, hr1, hb1⟩
  have S1 := Lib.hid (((Sx.start w).call hb1).add (fT A1 c1 three9) hr1)
  clear hr1 hb1
  go_wp2_with fail
  have PL := fun w hr => Lib.hid (KL A1 c1 4 three9 w hr rfl (by omega))
  have PT := fun w hr => Lib.hid (KT A1 c1 4 three9 w hr rfl (by omega))
  have PW := fun w hr => Lib.hid (KW A1 c1 4 three9 2 w hr rfl (by omega))
  rw [B1.out.1, B1.out.2.1] at PL
  rw [B1.out.1, B1.out.2.2.1] at PT
  rw [B1.out.2.2.2] at PW
  refine (PL _ S1.out.2.1).out.mono ?_
  rintro r w2 ⟨A2, c2, rfl, ho, hb⟩
  obtain ⟨g2, rfl, hcl⟩ := Cl9.of_own ho (by decide)
  have S2 := Lib.hid ((S1.out.call hb).add (fCl g2 (cej [(0, 2, 3)])) hcl)
  clear S1 hb ho hcl PL
  go_wp2_with fail
  refine (PT _ S2.out.2.2.1).out.mono ?_
  rintro r w3 ⟨A3, c3, rfl, ho, hb⟩
  obtain ⟨g3, rfl, hcl⟩ := Cl9.of_own ho (by decide)
  have S3 := Lib.hid ((S2.out.call hb).add (fCl g3 (ci9 [1, 3, 3, 1])) hcl)
  clear S2 hb ho hcl PT
  go_wp2_with fail
  refine (PW _ S3.out.2.2.2.1).out.mono ?_
  rintro r w4 ⟨A4, c4, rfl, ho, hb⟩
  obtain ⟨g4, rfl, hcl⟩ := Cl9.of_own ho (by decide)
  have S4 := Lib.hid ((S3.out.call hb).add (fCl g4 (ci9 [1, 3])) hcl)
  clear S3 hb ho hcl PW
  obtain ⟨-, ⟨-, d4⟩, ⟨-, d3⟩, ⟨-, d2⟩, -⟩ := S4.out
  have x0 := d2 0 _ rfl
  have x1 := d2 1 _ rfl
  have x2 := d2 2 _ rfl
  have y0 := d3 0 _ rfl
  have y1 := d3 1 _ rfl
  have y2 := d3 2 _ rfl
  have y3 := d3 3 _ rfl
  have z0 := d4 0 _ rfl
  have z1 := d4 1 _ rfl
  clear d2 d3 d4
  go_wp2_with fail
  refine (row9_lit [(26, 1, 0), (31, 0, 0)] _ 4 _ _ rfl rfl (by omega) (by unfold InOk; decide)).mono ?_
  rintro r w5 ⟨A5, c5, rfl, hr, hb⟩
  have T5 := Lib.hid ((S4.out.call hb).add (fT A5 c5 [(26, 1, 0), (31, 0, 0)]) hr)
  clear hr hb S4 x0 x1 x2 y0 y1 y2 y3 z0 z1
  go_wp2_with fail
  refine (KC A5 c5 2 [(26, 1, 0), (31, 0, 0)] _ T5.out.2.1 rfl (by omega)).mono ?_
  rintro r v5 ⟨rfl, hb⟩
  rw [E1.out]
  have U5 := Lib.hid (T5.out.call hb)
  clear hb T5
  go_wp2_with fail
  refine (row9_lit [(26, 0, 0), (31, 0, 0)] _ 4 _ _ rfl rfl (by omega) (by unfold InOk; decide)).mono ?_
  rintro r w6 ⟨A6, c6, rfl, hr, hb⟩
  have T6 := Lib.hid ((U5.out.call hb).add (fT A6 c6 [(26, 0, 0), (31, 0, 0)]) hr)
  clear hr hb U5
  go_wp2_with fail
  refine (KC A6 c6 2 [(26, 0, 0), (31, 0, 0)] _ T6.out.2.1 rfl (by omega)).mono ?_
  rintro r v6 ⟨rfl, hb⟩
  rw [E2.out]
  have U6 := Lib.hid (T6.out.call hb)
  clear hb T6
  go_wp2_with fail
  refine (row9_lit [(26, 2, 0), (31, 0, 0)] _ 4 _ _ rfl rfl (by omega) (by unfold InOk; decide)).mono ?_
  rintro r w7 ⟨A7, c7, rfl, hr, hb⟩
  have T7 := Lib.hid ((U6.out.call hb).add (fT A7 c7 [(26, 2, 0), (31, 0, 0)]) hr)
  clear hr hb U6
  go_wp2_with fail
  refine (KC A7 c7 2 [(26, 2, 0), (31, 0, 0)] _ T7.out.2.1 rfl (by omega)).mono ?_
  rintro r v7 ⟨rfl, hb⟩
  rw [E3.out]
  have U7 := Lib.hid (T7.out.call hb)
  clear hb T7
  go_wp2_with fail
  refine (row9_lit [(27, 2, 0), (28, 3, 0), (29, 1, 0), (31, 0, 0)] _ 8 _ _ rfl rfl (by omega) (by unfold InOk; decide)).mono ?_
  rintro r w8 ⟨A8, c8, rfl, hr, hb⟩
  have T8 := Lib.hid ((U7.out.call hb).add (fT A8 c8 [(27, 2, 0), (28, 3, 0), (29, 1, 0), (31, 0, 0)]) hr)
  clear hr hb U7
  go_wp2_with fail
  refine (KC A8 c8 4 [(27, 2, 0), (28, 3, 0), (29, 1, 0), (31, 0, 0)] _ T8.out.2.1 rfl (by omega)).mono ?_
  rintro r v8 ⟨rfl, hb⟩
  rw [E4.out]
  have U8 := Lib.hid (T8.out.call hb)
  clear hb T8
  go_wp2_with fail
  refine (row9_lit [(28, 3, 0), (26, 3, 0), (29, 0, 0), (31, 0, 0)] _ 8 _ _ rfl rfl (by omega) (by unfold InOk; decide)).mono ?_
  rintro r w9 ⟨A9, c9, rfl, hr, hb⟩
  have T9 := Lib.hid ((U8.out.call hb).add (fT A9 c9 [(28, 3, 0), (26, 3, 0), (29, 0, 0), (31, 0, 0)]) hr)
  clear hr hb U8
  go_wp2_with fail
  refine (KC A9 c9 4 [(28, 3, 0), (26, 3, 0), (29, 0, 0), (31, 0, 0)] _ T9.out.2.1 rfl (by omega)).mono ?_
  rintro r v9 ⟨rfl, hb⟩
  rw [E5.out]
  have U9 := Lib.hid (T9.out.call hb)
  clear hb T9
  go_wp2_with fail
  refine (row9_lit [(0, 0, 0)] _ 2 _ _ rfl rfl (by omega) (by unfold InOk; decide)).mono ?_
  rintro r w10 ⟨A10, c10, rfl, hr, hb⟩
  have T10 := Lib.hid ((U9.out.call hb).add (fT A10 c10 [(0, 0, 0)]) hr)
  clear hr hb U9
  go_wp2_with fail
  refine (KC A10 c10 1 [(0, 0, 0)] _ T10.out.2.1 rfl (by omega)).mono ?_
  rintro r v10 ⟨rfl, hb⟩
  rw [E6.out]
  have U10 := Lib.hid (T10.out.call hb)
  clear hb T10
  go_wp2_with fail
  go_ret
  exact ⟨rfl, U10.out.1⟩
end Go.Proofs.Ytfchdggefedgoaa
