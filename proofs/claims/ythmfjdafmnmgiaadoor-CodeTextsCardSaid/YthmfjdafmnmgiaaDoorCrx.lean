/-
  Layer 5, package code: Read's deferred closure, and what Read answers, at every place.
-/
import Derived.Test.YthmfjdafmnmgiaaDoorCre
import Derived.Recover
import Derived.Laws.Pointers
namespace Go.Proofs.YthmfjdafmnmgiaaDoor
open Go.RowKit
set_option maxRecDepth 100000
set_option linter.unusedSimpArgs false
set_option linter.unusedVariables false

theorem shut_panic (a0 a1 a2 : Addr) (E : Int) (x0 x1 x2 : Value) (w : World) (h0 : w.cell? a0 = some x0) (h1 : w.cell? a1 = some x1) (h2 : w.cell? a2 = some x2) (f0 : w.frozen? a0 = false) (f1 : w.frozen? a1 = false) (f2 : w.frozen? a2 = false)
    (n01 : a0 ≠ a1) (n02 : a0 ≠ a2) (n12 : a1 ≠ a2) (hE : (E != 0) = true) :
    CallsD Tryd.prog 37 #[.pointer (some a0), .pointer (some a1), .pointer (some a2)] (.panicking [{ v := .iface 27 (.int .i64 E), recovered := false }]) w fun e u' w' =>
      e = .returned (.tuple #[]) ∧ u' = .panicking [{ v := .iface 27 (.int .i64 E), recovered := true }] ∧ w' = ((w.setCell a0 (.int .i64 E)).setCell a1 (.slice none 0 0)).setCell a2 (.int .i64 0) := by
  have h1' : (w.setCell a0 (.int .i64 E)).cell? a1 = some x1 := by rw [World.cell?_setCell_other _ _ _ _ n01]; exact h1
  have h2' : ((w.setCell a0 (.int .i64 E)).setCell a1 (.slice none 0 0)).cell? a2 = some x2 := by rw [World.cell?_setCell_other _ _ _ _ n12, World.cell?_setCell_other _ _ _ _ n02]; exact h2
  have h0' : (w.setCell a0 (.int .i64 E)).cell? a0 = some (.int .i64 E) := World.cell?_setCell_same _ _ _ h0
  have hE' : (E == 0) = false := by simpa using hE
  have hta : ∀ (w : World) (v : Value), (Instr.typeAssert (.iface 27 v) 20 27 false).run Tryd.prog w = .ok v w := by
    intro w v
    simp [Instr.typeAssert, run_underlying Tryd.underlying27, go_sem, Result.andThen]
  refine callsD_of_wpS Tryd.func37 rfl fun c₀ cs hu => ?_
  apply wpS_seq
  apply wpS_seq
  apply wpS_region
  simp [wpOpsS, go_sem, recoverD, hu, Tryd.ntmps37, Exit.thenS, Array.replicate]
  refine wpS_of_wp ?_
  go_wp2_with fail
  simp only [Exit.thenS]
  refine wpS_of_wp ?_
  go_wp2_with fail
  simp [bodyPostS, results, Tryd.results37]
theorem shut_err (a0 a1 a2 : Addr) (E : Int) (x1 x2 : Value) (w : World) (h0 : w.cell? a0 = some (.int .i64 E)) (h1 : w.cell? a1 = some x1) (h2 : w.cell? a2 = some x2) (f1 : w.frozen? a1 = false) (f2 : w.frozen? a2 = false)
    (n12 : a1 ≠ a2) (hE : (E != 0) = true) :
    CallsD Tryd.prog 37 #[.pointer (some a0), .pointer (some a1), .pointer (some a2)] .returning w fun e u' w' =>
      e = .returned (.tuple #[]) ∧ u' = .returning ∧ w' = (w.setCell a1 (.slice none 0 0)).setCell a2 (.int .i64 0) := by
  have h2' : (w.setCell a1 (.slice none 0 0)).cell? a2 = some x2 := by rw [World.cell?_setCell_other _ _ _ _ n12]; exact h2
  have hE' : (E == 0) = false := by simpa using hE
  refine callsD_of_wpS Tryd.func37 rfl fun c₀ cs hu => ?_
  apply wpS_seq
  apply wpS_seq
  apply wpS_region
  simp [wpOpsS, go_sem, recoverD, hu, Tryd.ntmps37, Exit.thenS, Array.replicate]
  refine wpS_of_wp ?_
  go_wp2_with fail
  simp only [Exit.thenS]
  refine wpS_of_wp ?_
  go_wp2_with fail
  cases c₀
  simp_all [bodyPostS, results, Tryd.results37]
theorem shut_ok (a0 a1 a2 : Addr) (w : World) (h0 : w.cell? a0 = some (.int .i64 0)) :
    CallsD Tryd.prog 37 #[.pointer (some a0), .pointer (some a1), .pointer (some a2)] .returning w fun e u' w' =>
      e = .returned (.tuple #[]) ∧ u' = .returning ∧ w' = w := by
  refine callsD_of_wpS Tryd.func37 rfl fun c₀ cs hu => ?_
  apply wpS_seq
  apply wpS_seq
  apply wpS_region
  simp [wpOpsS, go_sem, recoverD, hu, Tryd.ntmps37, Exit.thenS, Array.replicate]
  refine wpS_of_wp ?_
  go_wp2_with fail
  simp only [Exit.thenS]
  refine wpS_of_wp ?_
  go_wp2_with fail
  cases c₀
  simp_all [bodyPostS, results, Tryd.results37]
/-- One cell of a variable. -/
def C1 (w : World) (b : Nat) (v : Value) : Prop := b < w.heap.size ∧ w.cell? ⟨b, 0, none⟩ = some v ∧ w.frozen? ⟨b, 0, none⟩ = false
theorem C1.keep {w w' : World} {b : Nat} {v : Value} (h : C1 w b v) (hb : Below w.heap.size w w') : C1 w' b v := by
  obtain ⟨h1, h2, h3⟩ := h
  obtain ⟨hc, hf⟩ := bcell hb
  exact ⟨Nat.lt_of_lt_of_le h1 hb.size, (hc _ _ h1).trans h2, (hf _ _ h1).trans h3⟩
theorem C1.new (w : World) (v : Value) (t : Nat) : C1 (w.alloc (.cells #[v] t)) w.heap.size v := by
  refine ⟨by simp, ?_, ?_⟩ <;> simp [go_sem]
theorem C1.grown {w w' : World} {b : Nat} {v : Value} (h : C1 w b v) {row : Option Nat} (hg : w.grownBy w' row) (hne : some b ≠ row) : C1 w' b v := by
  obtain ⟨h1, h2, h3⟩ := h
  have hB := hg.block b h1 hne
  exact ⟨Nat.lt_of_lt_of_le h1 hg.size, (World.cell?_of_block (w := w) hB).trans h2, (World.frozen?_of_block (w := w) hB).trans h3⟩
theorem C1.other {w : World} {b : Nat} {v : Value} (h : C1 w b v) {p : Addr} (hp : p.block ≠ b) (u : Value) : C1 (w.setCell p u) b v := by
  obtain ⟨h1, h2, h3⟩ := h
  have ne : p ≠ (⟨b, 0, none⟩ : Addr) := fun e => hp (by rw [e])
  refine ⟨by simpa using h1, ?_, by simpa using h3⟩
  rw [World.cell?_setCell_other _ _ _ _ ne]; exact h2
theorem C1.set {w : World} {b : Nat} {v : Value} (h : C1 w b v) (u : Value) : C1 (w.setCell ⟨b, 0, none⟩ u) b u := by
  obtain ⟨h1, h2, h3⟩ := h
  exact ⟨by simpa using h1, World.cell?_setCell_same _ _ _ h2, by simpa using h3⟩
theorem C1.drew {w : World} {b : Nat} {v : Value} (h : C1 w b v) : C1 w.drew b v := h.keep (below_draws (Below.refl _ _) 1)
abbrev fC (b : Nat) (v : Value) : Fct := ⟨fun w => C1 w b v, fun _ _ h hb => h.keep hb⟩

theorem rdC_bad {l : List Int} {p E : Int} (h : (rdC l p).1 = E) (h0 : E ≠ 0) : rdC l p = (E, [], 0) := by
  have key : (rdC l p).1 ≠ 0 → (rdC l p).2.1 = [] ∧ (rdC l p).2.2 = 0 := by
    unfold rdC
    split
    · exact fun _ => ⟨rfl, rfl⟩
    · split
      · exact fun _ => ⟨rfl, rfl⟩
      · simp only
        split
        · exact fun _ => ⟨rfl, rfl⟩
        · exact rdS_err _ _ _
  obtain ⟨h1, h2⟩ := key (by rw [h]; exact h0)
  generalize rdC l p = R at *
  obtain ⟨a, b, c⟩ := R
  simp only at h h1 h2
  rw [h, h1, h2]
theorem Ri.drew1 {w : World} {A : Option Addr} {c : Nat} {L : List Ins} (h : Ri w A c L) : Ri w.drew A c L := h.keep (below_draws (Below.refl _ _) 1)
theorem Ri.other {w : World} {g c : Nat} {L : List Ins} (h : Ri w (some ⟨g, 0, none⟩) c L) {p : Addr} (hp : p.block ≠ g) (v : Value) : Ri (w.setCell p v) (some ⟨g, 0, none⟩) c L :=
  h.grown (grown_set (World.grownBy.refl w (some p.block)) (.inr rfl) v) (fun ad e => by injection e with e; subst e; intro e; injection e with e; exact hp e.symm)
set_option maxHeartbeats 4000000 in
theorem cread_any (A : Option Addr) (c n : Nat) (l : List Int) (p : Int) (w : World) (hr : Rd w A c l) (hn : l.length = n) : Calls Tryd.prog 20 #[.slice A n c, .int .i64 p] w fun e w' => ∃ A' c', e = .returned (.tuple #[.slice A' (rdC l p).2.1.length c', .int .i64 (rdC l p).2.2, .int .i64 (rdC l p).1]) ∧ Ri w' A' c' (rdC l p).2.1 ∧ Below w.heap.size w w' := by
  have hmf : ∀ (fn : Fn) (first cap : Array Value) (w : World), (Instr.makeFunc fn first cap).run Tryd.prog w = .ok (.func fn first cap) w := fun _ _ _ _ => rfl
  have HR := Lib.hid hr
  have hA : ∀ ad, A = some ad → l.length = 0 ∨ ad.block < w.heap.size := by
    intro ad ha
    by_cases h0 : 0 < l.length
    · obtain ⟨ad', e, hc⟩ := hr.at_ (i := 0) h0
      rw [ha] at e
      injection e with e
      subst e
      have := cell_lt hc
      have hb : (ad.add 0).block = ad.block := by unfold Addr.add; split <;> rfl
      exact .inr (by omega)
    · exact .inl (by omega)
  clear hr
  go_enter_defers Tryd.func20, Tryd.ntmps20
  go_wp2_with fail
  have hsz : ∀ o1 o2 o3 : Obj, (((w.alloc o1).alloc o2).alloc o3).heap.size = w.heap.size + 1 + 1 + 1 := fun _ _ _ => by simp
  have hb4 := (below_on (new3 (w := w) (a := .cells #[.slice none 0 0] 22) (b := .cells #[.int .i64 0] 3) (c := .cells #[.int .i64 0] 27)) (new1 (a := .cells #[.slice A n c, .int .i64 p] 71)))
  have hq4 := Rr.new (((w.alloc (.cells #[.slice none 0 0] 22)).alloc (.cells #[.int .i64 0] 3)).alloc (.cells #[.int .i64 0] 27)) A c n p 71
  have k1 := (((C1.new w (.slice none 0 0) 22).keep (new1 (a := .cells #[.int .i64 0] 3))).keep (new1 (a := .cells #[.int .i64 0] 27))).keep (new1 (a := .cells #[.slice A n c, .int .i64 p] 71))
  have k2 := ((C1.new (w.alloc (.cells #[.slice none 0 0] 22)) (.int .i64 0) 3).keep (new1 (a := .cells #[.int .i64 0] 27))).keep (new1 (a := .cells #[.slice A n c, .int .i64 p] 71))
  have k3 := (C1.new ((w.alloc (.cells #[.slice none 0 0] 22)).alloc (.cells #[.int .i64 0] 3)) (.int .i64 0) 27).keep (new1 (a := .cells #[.slice A n c, .int .i64 p] 71))
  rw [size1] at k2
  rw [size1, size1] at k3
  rw [hsz] at hq4
  have hz4 : w.heap.size + 4 ≤ ((((w.alloc (.cells #[.slice none 0 0] 22)).alloc (.cells #[.int .i64 0] 3)).alloc (.cells #[.int .i64 0] 27)).alloc (.cells #[.slice A n c, .int .i64 p] 71)).heap.size := by rw [size1, hsz]; omega
  clear hsz
  generalize ((((w.alloc (.cells #[.slice none 0 0] 22)).alloc (.cells #[.int .i64 0] 3)).alloc (.cells #[.int .i64 0] 27)).alloc (.cells #[.slice A n c, .int .i64 p] 71)) = w4 at *
  refine (rcode_any _ A c n l p _ (HR.out.keep hb4) hn hq4 (fun ad e h => by rcases hA ad e with h' | h' <;> simp <;> omega)).mono ?_
  rintro e w5 ⟨hg5, hh⟩
  have h41 := k1.grown hg5 (by simp; try omega)
  have h42 := k2.grown hg5 (by simp; try omega)
  have h43 := k3.grown hg5 (by simp; try omega)
  have HB5 := Lib.hid (hb4.grown hg5 (Nat.le_of_lt (by have := k1.1; omega)) (fun k e => by injection e with e; omega))
  clear k1 k2 k3 hb4 hq4 hg5
  rcases hh with ⟨E, rfl, hE, hN⟩ | ⟨q, rfl, hN, hq⟩ | ⟨A', c', L, q, rfl, hN, hri, hq, g, hAg, hgs⟩
  · have HN := Lib.hid (rdC_bad hN hE)
    clear hN
    have HC : Hid (∀ w'', w'' = ((w5.setCell ⟨w.heap.size + 1 + 1, 0, none⟩ (.int .i64 E)).setCell ⟨w.heap.size, 0, none⟩ (.slice none 0 0)).setCell ⟨w.heap.size + 1, 0, none⟩ (.int .i64 0) → w''.cell? ⟨w.heap.size, 0, none⟩ = some (.slice none 0 0) ∧ w''.cell? ⟨w.heap.size + 1, 0, none⟩ = some (.int .i64 0) ∧ w''.cell? ⟨w.heap.size + 1 + 1, 0, none⟩ = some (.int .i64 E) ∧ Below w.heap.size w w'') := by
      rintro w'' rfl
      exact ⟨(((h41.other (by simp; try omega) _).set _).other (by simp; try omega) _).2.1, (((h42.other (by simp; try omega) _).other (by simp; try omega) _).set _).2.1, (((h43.set _).other (by simp; try omega) _).other (by simp; try omega) _).2.1,
        ((HB5.out.setCell (by simp; omega) _).setCell (by simp) _).setCell (by simp) _⟩
    obtain ⟨-, a1, b1⟩ := h41
    obtain ⟨-, a2, b2⟩ := h42
    obtain ⟨-, a3, b3⟩ := h43
    go_wp2_with fail
    refine leaves_cons (f := 37) (args := #[.pointer (some ⟨w.heap.size + 1 + 1, 0, none⟩), .pointer (some ⟨w.heap.size, 0, none⟩), .pointer (some ⟨w.heap.size + 1, 0, none⟩)]) (by simp) (by simp [go_sem]) ?_
    refine (shut_panic _ _ _ E _ _ _ _ a3 a1 a2 b3 b1 b2 (by simp; try omega) (by simp; try omega) (by simp; try omega) (by simpa using hE)).mono ?_
    rintro e u' w'' ⟨rfl, rfl, hw⟩
    obtain ⟨c1, c2, c3, hbl⟩ := HC.out _ hw
    clear hw HC a1 a2 a3 b1 b2 b3
    have HBL := Lib.hid hbl
    clear hbl
    simp [Leaves, settle, results, Tryd.results20, go_sem, c1, c2, c3, HN.out]
    exact ⟨none, 0, ⟨rfl, rfl⟩, Ri.none_ _, HBL.out⟩
  · have HN := Lib.hid (rdC_bad hN (by decide))
    clear hN
    have hF1 := fun u2 u3 u4 => ((((((h41.set (.slice none 0 0)).other (show (⟨w.heap.size + 1 + 1, 0, none⟩ : Addr).block ≠ w.heap.size from by simp; omega) u2).set (.slice none 0 0)).other (show (⟨w.heap.size + 1, 0, none⟩ : Addr).block ≠ w.heap.size from by simp) u3).other (show (⟨w.heap.size + 1 + 1, 0, none⟩ : Addr).block ≠ w.heap.size from by simp; omega) u4)).drew
    have hF2 := fun u1 u2 u3 u4 => ((((((h42.other (show (⟨w.heap.size, 0, none⟩ : Addr).block ≠ w.heap.size + 1 from by simp) u1).other (show (⟨w.heap.size + 1 + 1, 0, none⟩ : Addr).block ≠ w.heap.size + 1 from by simp) u2).other (show (⟨w.heap.size, 0, none⟩ : Addr).block ≠ w.heap.size + 1 from by simp) u3).set (.int .i64 q)).other (show (⟨w.heap.size + 1 + 1, 0, none⟩ : Addr).block ≠ w.heap.size + 1 from by simp) u4)).drew
    have hF3 := fun u1 u2 u3 u4 => ((((((h43.other (show (⟨w.heap.size, 0, none⟩ : Addr).block ≠ w.heap.size + 1 + 1 from by simp; omega) u1).set u2).other (show (⟨w.heap.size, 0, none⟩ : Addr).block ≠ w.heap.size + 1 + 1 from by simp; omega) u3).other (show (⟨w.heap.size + 1, 0, none⟩ : Addr).block ≠ w.heap.size + 1 + 1 from by simp) u4).set (.int .i64 40))).drew
    have HF1 := Lib.hid hF1
    have HF2 := Lib.hid hF2
    have HF3 := Lib.hid hF3
    have HBF : Hid (∀ u1 u2 u3 u4 u5 : Value, Below w.heap.size w (((((w5.setCell ⟨w.heap.size, 0, none⟩ u1).setCell ⟨w.heap.size + 1 + 1, 0, none⟩ u2).setCell ⟨w.heap.size, 0, none⟩ u3).setCell ⟨w.heap.size + 1, 0, none⟩ u4).setCell ⟨w.heap.size + 1 + 1, 0, none⟩ u5).drew) :=
      fun u1 u2 u3 u4 u5 => (((((HB5.out.setCell (by simp) _).setCell (by simp; omega) _).setCell (by simp) _).setCell (by simp) _).setCell (by simp; omega) _).drew
    clear hF1 hF2 hF3
    obtain ⟨-, a1, b1⟩ := h41
    obtain ⟨-, a2, b2⟩ := h42
    obtain ⟨-, a3, b3⟩ := h43
    obtain ⟨-, q0, q1, q2, q3⟩ := hq
    go_wp2_with fail
    go_region
    go_wp2_with fail
    have g1 := HF1.out (.int .i64 40) (.int .i64 q) (.int .i64 40)
    have g2 := HF2.out (.slice none 0 0) (.int .i64 40) (.slice none 0 0) (.int .i64 40)
    have g3 := HF3.out (.slice none 0 0) (.int .i64 40) (.slice none 0 0) (.int .i64 q)
    have gB := HBF.out (.slice none 0 0) (.int .i64 40) (.slice none 0 0) (.int .i64 q) (.int .i64 40)
    generalize (((((w5.setCell ⟨w.heap.size, 0, none⟩ (.slice none 0 0)).setCell ⟨w.heap.size + 1 + 1, 0, none⟩ (.int .i64 40)).setCell ⟨w.heap.size, 0, none⟩ (.slice none 0 0)).setCell ⟨w.heap.size + 1, 0, none⟩ (.int .i64 q)).setCell ⟨w.heap.size + 1 + 1, 0, none⟩ (.int .i64 40)).drew = wF at *
    refine leaves_cons (f := 37) (args := #[.pointer (some ⟨w.heap.size + 1 + 1, 0, none⟩), .pointer (some ⟨w.heap.size, 0, none⟩), .pointer (some ⟨w.heap.size + 1, 0, none⟩)]) (by simp) (by simp [go_sem]) ?_
    have HC : Hid (∀ w'', w'' = (wF.setCell ⟨w.heap.size, 0, none⟩ (.slice none 0 0)).setCell ⟨w.heap.size + 1, 0, none⟩ (.int .i64 0) → w''.cell? ⟨w.heap.size, 0, none⟩ = some (.slice none 0 0) ∧ w''.cell? ⟨w.heap.size + 1, 0, none⟩ = some (.int .i64 0) ∧ w''.cell? ⟨w.heap.size + 1 + 1, 0, none⟩ = some (.int .i64 40) ∧ Below w.heap.size w w'') := by
      rintro w'' rfl
      exact ⟨((g1.set _).other (by simp) _).2.1, ((g2.other (by simp) _).set _).2.1, ((g3.other (by simp; omega) _).other (by simp) _).2.1, (gB.setCell (by simp) _).setCell (by simp) _⟩
    refine (shut_err _ _ _ 40 _ _ _ g3.2.1 g1.2.1 g2.2.1 g1.2.2 g2.2.2 (by simp) (by decide)).mono ?_
    rintro e u' w'' ⟨rfl, rfl, hw⟩
    obtain ⟨c1, c2, c3, hbl⟩ := HC.out _ hw
    clear hw HC
    have HBL := Lib.hid hbl
    clear hbl
    simp [Leaves, settle, results, Tryd.results20, go_sem, c1, c2, c3, HN.out]
    exact ⟨none, 0, ⟨rfl, rfl⟩, Ri.none_ _, HBL.out⟩
  · have HN := Lib.hid hN
    clear hN
    have hF1 := fun u2 u3 u4 => ((((((h41.set (.slice A' L.length c')).other (show (⟨w.heap.size + 1 + 1, 0, none⟩ : Addr).block ≠ w.heap.size from by simp; omega) u2).set (.slice A' L.length c')).other (show (⟨w.heap.size + 1, 0, none⟩ : Addr).block ≠ w.heap.size from by simp) u3).other (show (⟨w.heap.size + 1 + 1, 0, none⟩ : Addr).block ≠ w.heap.size from by simp; omega) u4)).drew
    have hF2 := fun u1 u2 u3 u4 => ((((((h42.other (show (⟨w.heap.size, 0, none⟩ : Addr).block ≠ w.heap.size + 1 from by simp) u1).other (show (⟨w.heap.size + 1 + 1, 0, none⟩ : Addr).block ≠ w.heap.size + 1 from by simp) u2).other (show (⟨w.heap.size, 0, none⟩ : Addr).block ≠ w.heap.size + 1 from by simp) u3).set (.int .i64 q)).other (show (⟨w.heap.size + 1 + 1, 0, none⟩ : Addr).block ≠ w.heap.size + 1 from by simp) u4)).drew
    have hF3 := fun u1 u2 u3 u4 => ((((((h43.other (show (⟨w.heap.size, 0, none⟩ : Addr).block ≠ w.heap.size + 1 + 1 from by simp; omega) u1).set u2).other (show (⟨w.heap.size, 0, none⟩ : Addr).block ≠ w.heap.size + 1 + 1 from by simp; omega) u3).other (show (⟨w.heap.size + 1, 0, none⟩ : Addr).block ≠ w.heap.size + 1 + 1 from by simp) u4).set (.int .i64 0))).drew
    have HF1 := Lib.hid hF1
    have HF2 := Lib.hid hF2
    have HF3 := Lib.hid hF3
    have HBF : Hid (∀ u1 u2 u3 u4 u5 : Value, Below w.heap.size w (((((w5.setCell ⟨w.heap.size, 0, none⟩ u1).setCell ⟨w.heap.size + 1 + 1, 0, none⟩ u2).setCell ⟨w.heap.size, 0, none⟩ u3).setCell ⟨w.heap.size + 1, 0, none⟩ u4).setCell ⟨w.heap.size + 1 + 1, 0, none⟩ u5).drew) :=
      fun u1 u2 u3 u4 u5 => (((((HB5.out.setCell (by simp) _).setCell (by simp; omega) _).setCell (by simp) _).setCell (by simp) _).setCell (by simp; omega) _).drew
    clear hF1 hF2 hF3
    obtain ⟨-, a1, b1⟩ := h41
    obtain ⟨-, a2, b2⟩ := h42
    obtain ⟨-, a3, b3⟩ := h43
    obtain ⟨-, q0, q1, q2, q3⟩ := hq
    have hlen := hri.len
    have HRI0 : Hid (∀ u1 u2 u3 u4 u5 : Value, Ri (((((w5.setCell ⟨w.heap.size, 0, none⟩ u1).setCell ⟨w.heap.size + 1 + 1, 0, none⟩ u2).setCell ⟨w.heap.size, 0, none⟩ u3).setCell ⟨w.heap.size + 1, 0, none⟩ u4).setCell ⟨w.heap.size + 1 + 1, 0, none⟩ u5).drew A' c' L) := by
      intro u1 u2 u3 u4 u5
      subst hAg
      have h1 := hri.other (p := ⟨w.heap.size, 0, none⟩) (by simp; omega) u1
      have h2 := h1.other (p := ⟨w.heap.size + 1 + 1, 0, none⟩) (by simp; omega) u2
      have h3 := h2.other (p := ⟨w.heap.size, 0, none⟩) (by simp; omega) u3
      have h4 := h3.other (p := ⟨w.heap.size + 1, 0, none⟩) (by simp; omega) u4
      have h5 := h4.other (p := ⟨w.heap.size + 1 + 1, 0, none⟩) (by simp; omega) u5
      exact h5.drew1
    clear hri hAg
    go_wp2_with fail
    go_region
    go_wp2_with fail
    have g1 := HF1.out (.int .i64 0) (.int .i64 q) (.int .i64 0)
    have g2 := HF2.out (.slice A' L.length c') (.int .i64 0) (.slice A' L.length c') (.int .i64 0)
    have g3 := HF3.out (.slice A' L.length c') (.int .i64 0) (.slice A' L.length c') (.int .i64 q)
    have HRI := Lib.hid (HRI0.out (.slice A' L.length c') (.int .i64 0) (.slice A' L.length c') (.int .i64 q) (.int .i64 0))
    clear HRI0
    have gB := HBF.out (.slice A' L.length c') (.int .i64 0) (.slice A' L.length c') (.int .i64 q) (.int .i64 0)
    generalize (((((w5.setCell ⟨w.heap.size, 0, none⟩ (.slice A' L.length c')).setCell ⟨w.heap.size + 1 + 1, 0, none⟩ (.int .i64 0)).setCell ⟨w.heap.size, 0, none⟩ (.slice A' L.length c')).setCell ⟨w.heap.size + 1, 0, none⟩ (.int .i64 q)).setCell ⟨w.heap.size + 1 + 1, 0, none⟩ (.int .i64 0)).drew = wF at *
    refine leaves_cons (f := 37) (args := #[.pointer (some ⟨w.heap.size + 1 + 1, 0, none⟩), .pointer (some ⟨w.heap.size, 0, none⟩), .pointer (some ⟨w.heap.size + 1, 0, none⟩)]) (by simp) (by simp [go_sem]) ?_
    refine (shut_ok _ _ _ _ g3.2.1).mono ?_
    rintro e u' w'' ⟨rfl, rfl, rfl⟩
    have c1 := g1.2.1
    have c2 := g2.2.1
    have c3 := g3.2.1
    have HBL := Lib.hid gB
    clear gB g1 g2 g3
    simp [Leaves, settle, results, Tryd.results20, go_sem, c1, c2, c3, HN.out]
    exact ⟨A', c', ⟨rfl, rfl⟩, HRI.out, HBL.out⟩
theorem kread (F : Fct) : KRead F := fun A c n l p w _ hr hn => cread_any A c n l p w hr hn
end Go.Proofs.YthmfjdafmnmgiaaDoor
