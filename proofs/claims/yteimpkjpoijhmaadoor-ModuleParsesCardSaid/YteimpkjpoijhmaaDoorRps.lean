/-
  Layer 8: what the reference's Parse answers.
-/
import Derived.Test.YteimpkjpoijhmaaDoorRcp
import Derived.Test.YteimpkjpoijhmaaDoorPrw
import Derived.Test.YteimpkjpoijhmaaDoorHx
import Derived.Test.YteimpkjpoijhmaaDoorLr
namespace Go.Proofs.YteimpkjpoijhmaaDoor
open Go.RowKit
set_option maxRecDepth 100000
set_option linter.unusedSimpArgs false
set_option linter.unusedVariables false

/-- Amid the reference's Parse: the result's block N, the empty module's N + 1. -/
def Rz8 (w0 : World) (N : Nat) (A : Option Addr) (c : Nat) (l : List Int) (w : World) : Prop := Below N w0 w ∧ (Mf w N ∧ Db w N Ma.zero Md.zero) ∧ (Mf w (N + 1) ∧ Db w (N + 1) Ma.zero Md.zero) ∧ Rd w A c l ∧ w0.heap.size = N
section
variable {w0 w w' : World} {N : Nat} {A : Option Addr} {c : Nat} {l : List Int}
theorem Rz8.call (h : Rz8 w0 N A c l w) (hb : Below w.heap.size w w') : Rz8 w0 N A c l w' :=
  ⟨h.1.trans (hb.mono (Nat.le_of_lt h.2.1.1.1)), ⟨h.2.1.1.keep hb, h.2.1.2.keep hb⟩, ⟨h.2.2.1.1.keep hb, h.2.2.1.2.keep hb⟩, h.2.2.2.1.keep hb, h.2.2.2.2⟩
theorem Rz8.bad (h : Rz8 w0 N A c l w) : Db (put4 w N Ma.zero Md.zero) N Ma.zero Md.zero ∧ Hq (put4 w N Ma.zero Md.zero) Ma.zero Md.zero ∧ Below w0.heap.size w0 (put4 w N Ma.zero Md.zero) :=
  ⟨put4_db h.2.1.2 _ _, Hq.zero _, by rw [h.2.2.2.2]; exact put4_below h.1 (Nat.le_refl _) _ _⟩
end
theorem rget_m8 (A : Option Addr) (c n : Nat) (l : List Int) (p : Int) (w : World) (hr : Rd w A c l) (hn : l.length = n) (hl : l.length ≤ 2000) : Calls Tryd.prog 44 #[.slice A n c, .int .i64 p, .int .i64 1] w fun e w' => e = .returned (.tuple #[.int .i64 (getV l p 1), .int .i64 (getN l p 1), .int .i64 (getE l p 1)]) ∧ w = w' := by
  subst hn
  exact rget_any A c l p 1 w hr hl
theorem rparse_end (tm : Array Value) (w' : World) (T : Nat) (y : Ma) (d : Md) (e : Int) (hT : tm[2]?.getD undef = .pointer (some ⟨T, 0, none⟩)) (h3 : tm[3]?.getD undef = .int .i64 e) (hM : Db w' T y d) (R : Ending → World → Prop)
    (hR : R (.returned (.tuple #[dv y d, .int .i64 e])) w') : bodyPost Tryd.prog Tryd.f15 R .ret { tmps := tm, defers := [] } w' := by
  obtain ⟨h0, c1, c2, c3, c4⟩ := hM
  exact bodyPost_ret (v := .tuple #[dv y d, .int .i64 e]) (by simp [results, Tryd.results15, go_sem, hT, h3, c1, c2, c3, c4]) rfl hR
def mlen (w : World) (T : Nat) : Nat := match w.cell? ⟨T, 2, none⟩ with | some (.slice _ n _) => n | _ => 0
theorem mlen_of {w : World} {T n c : Nat} {A : Option Addr} (h : w.cell? ⟨T, 2, none⟩ = some (.slice A n c)) : mlen w T = n := by rw [mlen, h]
/-- Amid the loop: m in block T, with n methods. -/
def Rl8 (w0 : World) (N : Nat) (A : Option Addr) (c : Nat) (l : List Int) (T : Nat) (A1 A2 A3 : Option Addr) (c1 c2 c3 : Nat) (d : Md) (Zs : List Me) (n : Nat) (wr : World) : Prop :=
  Rz8 w0 N A c l wr ∧ Mf wr T ∧ Dc wr T A1 A2 A3 c1 c2 c3 d n ∧ Bk wr T 25 4 ∧
  wr.ownsRow (N + 2) 67 3 (.slice A1 d.g.length c1) d.g.length (cev d.g) ∧ wr.ownsRow (N + 2) 67 3 (.slice A2 d.p.length c2) d.p.length (cev d.p) ∧
  wr.ownsRow (N + 2) 49 8 (.slice A3 n c3) n (cem Zs) ∧ (∀ z ∈ Zs, Wz wr (N + 2) z) ∧ Zs.length = n ∧ N + 2 ≤ T
section
variable {w0 wr w' : World} {N T : Nat} {A A1 A2 A3 : Option Addr} {c c1 c2 c3 n : Nat} {l : List Int} {d : Md} {Zs : List Me}
theorem Rz8.sets (h : Rz8 w0 N A c l wr) {k : Nat} (hb : Below k wr w') (hk : N + 2 ≤ k) (hA : ∀ ad, A = some ad → 0 < l.length → ad.block < N) : Rz8 w0 N A c l w' := by
  refine ⟨h.1.trans (hb.mono (by omega)), ⟨h.2.1.1.belowB hb (by omega), h.2.1.2.belowB hb (by omega)⟩, ⟨h.2.2.1.1.belowB hb (by omega), h.2.2.1.2.belowB hb (by omega)⟩, ?_, h.2.2.2.2⟩
  obtain ⟨r1, r2, r3, r4⟩ := h.2.2.2.1
  refine ⟨r1, r2, r3, ?_⟩
  rcases r4 with r4 | ⟨ad, e, hc⟩
  · exact .inl r4
  · refine .inr ⟨ad, e, fun i x hx => ?_⟩
    have := hA ad e (by have := (List.getElem?_eq_some_iff.1 hx).1; omega)
    exact (hb.cell (p := ad.add i) (by rw [add_block]; omega)).trans (hc i x hx)
theorem Rl8.call (h : Rl8 w0 N A c l T A1 A2 A3 c1 c2 c3 d Zs n wr) (hb : Below wr.heap.size wr w') : Rl8 w0 N A c l T A1 A2 A3 c1 c2 c3 d Zs n w' := by
  obtain ⟨h1, h2, h3, h4, h5, h6, h7, h8, h9⟩ := h
  exact ⟨h1.call hb, h2.keep hb, h3.keep hb, h4.keep hb, own_below h5 hb (Nat.le_refl _), own_below h6 hb (Nat.le_refl _), own_below h7 hb (Nat.le_refl _), fun z hz => (h8 z hz).keep hb, h9⟩
/-- Behind an append of one method. -/
def Rk8 (w0 : World) (N : Nat) (A : Option Addr) (c : Nat) (l : List Int) (T : Nat) (A1 A2 A3 : Option Addr) (c1 c2 c3 : Nat) (d : Md) (Zs : List Me) (n : Nat) (z : Me) (A7 : Option Addr) (c7 : Nat) (wr : World) : Prop :=
  Rz8 w0 N A c l wr ∧ Mf wr T ∧ Dc wr T A1 A2 A3 c1 c2 c3 d n ∧ Bk wr T 25 4 ∧
  wr.ownsRow (N + 2) 67 3 (.slice A1 d.g.length c1) d.g.length (cev d.g) ∧ wr.ownsRow (N + 2) 67 3 (.slice A2 d.p.length c2) d.p.length (cev d.p) ∧
  wr.ownsRow (N + 2) 49 8 (.slice A7 (n + 1) c7) (n + 1) (cem (Zs ++ [z])) ∧ (∀ t ∈ Zs ++ [z], Wz wr (N + 2) t) ∧ (Zs ++ [z]).length = n + 1 ∧ N + 2 ≤ T
theorem Rl8.grow {z : Me} {A7 : Option Addr} {c7 : Nat} (h : Rl8 w0 N A c l T A1 A2 A3 c1 c2 c3 d Zs n wr) (hg : wr.grownBy w' (Value.slice A3 n c3).ownBlock) (hb : Below (N + 2) wr w') (hA : ∀ ad, A = some ad → 0 < l.length → ad.block < N) (hw : Wz wr (N + 2) z)
    (ho : w'.ownsRow (N + 2) 49 8 (.slice A7 (n + 1) c7) (n + 1) (cem (Zs ++ [z]))) : Rk8 w0 N A c l T A1 A2 A3 c1 c2 c3 d Zs n z A7 c7 w' := by
  obtain ⟨h1, h4, h5, h6, h7, h8, h9, ha, hb2, hd⟩ := h
  have he := h6.grownEq h9 (by decide) hg
  have hs := hb.size
  have kc : ∀ i, w'.cell? ⟨T, i, none⟩ = wr.cell? ⟨T, i, none⟩ := fun i => World.cell?_of_block (w := wr) he
  have kf : ∀ i, w'.frozen? ⟨T, i, none⟩ = wr.frozen? ⟨T, i, none⟩ := fun i => World.frozen?_of_block (w := wr) he
  refine ⟨h1.sets hb (Nat.le_refl _) hA, ⟨Nat.lt_of_lt_of_le h4.1 hs, fun i => (kf i).trans (h4.2 i)⟩,
    ⟨Nat.lt_of_lt_of_le h5.1 hs, (kc 0).trans h5.2.1, (kc 1).trans h5.2.2.1, (kc 2).trans h5.2.2.2.1, (kc 3).trans h5.2.2.2.2⟩, h6.grown h9 (by decide) hg, own_grown h7 h9 (by decide) hg, own_grown h8 h9 (by decide) hg, ho, fun t ht => ?_, by rw [List.length_append, hb2]; rfl, hd⟩
  rcases List.mem_append.1 ht with ht | ht
  · exact (ha t ht).grown h9 hg
  · rw [List.mem_singleton.1 ht]; exact hw.grown h9 hg
theorem Rk8.put {z : Me} {A7 : Option Addr} {c7 : Nat} (h : Rk8 w0 N A c l T A1 A2 A3 c1 c2 c3 d Zs n z A7 c7 wr) (hA : ∀ ad, A = some ad → 0 < l.length → ad.block < N) : Rl8 w0 N A c l T A1 A2 A7 c1 c2 c7 d (Zs ++ [z]) (n + 1) (wr.setCell ⟨T, 2, none⟩ (.slice A7 (n + 1) c7)) := by
  obtain ⟨h1, h4, h5, h6, h7, h8, h9, ha, hb2, hd⟩ := h
  have hb : Below (N + 2) wr (wr.setCell ⟨T, 2, none⟩ (.slice A7 (n + 1) c7)) := (Below.refl (N + 2) wr).setCell (show N + 2 ≤ T from hd) _
  refine ⟨h1.sets hb (Nat.le_refl _) hA, h4.set _ _, ?_, h6.set _ _ _, own_tag h7 h6 (by decide) _ _, own_tag h8 h6 (by decide) _ _, own_tag h9 h6 (by decide) _ _, fun t ht => ?_, hb2, hd⟩
  · obtain ⟨i0, i1, i2, i3, i4⟩ := h5
    refine ⟨by simpa using i0, ?_, ?_, ?_, ?_⟩ <;> simp [go_sem, i1, i2, i3, i4]
  · obtain ⟨j1, j2, j3, j4⟩ := ha t ht
    exact ⟨j1, own_tag j2 h6 (by decide) _ _, own_tag j3 h6 (by decide) _ _, own_tag j4 h6 (by decide) _ _⟩
theorem Rl8.start (h : Rz8 w0 N A c l wr) (g p : List Vlu) (o1 : wr.ownsRow (N + 2) 67 3 (.slice A1 g.length c1) g.length (cev g)) (o2 : wr.ownsRow (N + 2) 67 3 (.slice A2 p.length c2) p.length (cev p)) :
    Rl8 w0 N A c l wr.heap.size A1 A2 none c1 c2 0 ⟨g, p, [], 0⟩ [] 0 (wr.alloc (.cells #[.slice A1 g.length c1, .slice A2 p.length c2, .slice none 0 0, .int .i64 0] 25)) := by
  refine ⟨h.call new1, Mf.new _ _ _, ⟨by simp, ?_, ?_, ?_, ?_⟩, Bk.new _ _ _, own_below o1 new1 (Nat.le_refl _), own_below o2 new1 (Nat.le_refl _), World.ownsRow_nil _ _ _ _, fun z hz => (by cases hz), rfl, h.2.2.1.1.1⟩ <;> simp [go_sem]
/-- The last byte is stored. -/
theorem Rl8.last (h : Rl8 w0 N A c l T A1 A2 A3 c1 c2 c3 d Zs n wr) (i : Int) (hA : ∀ ad, A = some ad → 0 < l.length → ad.block < N) : Rl8 w0 N A c l T A1 A2 A3 c1 c2 c3 { d with i := i } Zs n (wr.setCell ⟨T, 3, none⟩ (.int .i64 i)) := by
  obtain ⟨h1, h4, h5, h6, h7, h8, h9, ha, hb2, hd⟩ := h
  have hb : Below (N + 2) wr (wr.setCell ⟨T, 3, none⟩ (.int .i64 i)) := (Below.refl (N + 2) wr).setCell (show N + 2 ≤ T from hd) _
  refine ⟨h1.sets hb (Nat.le_refl _) hA, h4.set _ _, ?_, h6.set _ _ _, own_tag h7 h6 (by decide) _ _, own_tag h8 h6 (by decide) _ _, own_tag h9 h6 (by decide) _ _, fun t ht => ?_, hb2, hd⟩
  · obtain ⟨i0, i1, i2, i3, i4⟩ := h5
    refine ⟨by simpa using i0, ?_, ?_, ?_, ?_⟩ <;> simp [go_sem, i1, i2, i3, i4]
  · obtain ⟨j1, j2, j3, j4⟩ := ha t ht
    exact ⟨j1, own_tag j2 h6 (by decide) _ _, own_tag j3 h6 (by decide) _ _, own_tag j4 h6 (by decide) _ _⟩
theorem Rl8.fin (h : Rl8 w0 N A c l T A1 A2 A3 c1 c2 c3 d Zs n wr) (hg : ∀ x ∈ d.g, VlOk x) (hp : ∀ x ∈ d.p, VlOk x) (hi : -9223372036854775808 ≤ d.i ∧ d.i ≤ 9223372036854775807) (hs : Zs.map ze = d.s) :
    Db (put4 wr N ⟨A1, c1, A2, c2, A3, c3, Zs⟩ d) N ⟨A1, c1, A2, c2, A3, c3, Zs⟩ d ∧ Hq (put4 wr N ⟨A1, c1, A2, c2, A3, c3, Zs⟩ d) ⟨A1, c1, A2, c2, A3, c3, Zs⟩ d ∧ Below w0.heap.size w0 (put4 wr N ⟨A1, c1, A2, c2, A3, c3, Zs⟩ d) := by
  obtain ⟨h1, h4, h5, h6, h7, h8, h9, ha, hb2, hd⟩ := h
  have hl : N < N + 2 := by omega
  have k4 := put4_own h7 hl ⟨A1, c1, A2, c2, A3, c3, Zs⟩ d
  have k5 := put4_own h8 hl ⟨A1, c1, A2, c2, A3, c3, Zs⟩ d
  have k6 := put4_own h9 hl ⟨A1, c1, A2, c2, A3, c3, Zs⟩ d
  have k7 : ∀ z ∈ Zs, Wz (put4 wr N ⟨A1, c1, A2, c2, A3, c3, Zs⟩ d) (N + 2) z := fun z hz => (ha z hz).put4 hl _ d
  exact ⟨put4_db h1.2.1.2 _ d, ⟨(Rv.of_own k4 hg).1, (Rv.of_own k5 hp).1, (Rm.of_own k6 (fun z hz => (k7 z hz).ok)).1, hs, hi⟩, by rw [h1.2.2.2.2]; exact put4_below h1.1 (Nat.le_refl _) _ d⟩
end
set_option maxHeartbeats 16000000 in
theorem r8parse_v (A : Option Addr) (c n : Nat) (l : List Int) (w : World) (hr : Rd w A c l) (hn : l.length = n) (hl : n ≤ 3001) : Calls Tryd.prog 15 #[.slice A n c] w fun r w' => ∃ y, r = .returned (.tuple #[dv y (qP l).1, .int .i64 (qP l).2]) ∧ Hq w' y (qP l).1 ∧ Below w.heap.size w w' := by
  obtain ⟨N, hN⟩ : ∃ N, w.heap.size = N := ⟨_, rfl⟩
  obtain ⟨R, hR⟩ : ∃ R, qP l = R := ⟨_, rfl⟩
  have HRR := Lib.hid hR
  have HBY := Lib.hid hr.byt
  have HA : Hid (∀ ad, A = some ad → 0 < l.length → ad.block < N) := Lib.hid (fun ad h0 h1 => hN ▸ rd_lt hr h0 h1)
  have HLN := Lib.hid hn
  rw [hR]
  have H1 : Hid (Rz8 w N A c l ((w.alloc (dcel Ma.zero Md.zero)).alloc (dcel Ma.zero Md.zero))) := by
    have a1 := Mf.new (w.alloc (dcel Ma.zero Md.zero)) #[.slice none 0 0, .slice none 0 0, .slice none 0 0, .int .i64 0] 25
    have a2 := Db.new (w.alloc (dcel Ma.zero Md.zero)) Ma.zero Md.zero
    rw [size1, hN] at a1 a2
    subst hN
    have hb : Below w.heap.size w ((w.alloc (dcel Ma.zero Md.zero)).alloc (dcel Ma.zero Md.zero)) := new1.alloc (by simp) _
    exact ⟨hb, ⟨(Mf.new w _ _).keep new1, (Db.new w _ _).keep new1⟩, ⟨a1, a2⟩, hr.keep hb, rfl⟩
  clear hr hR
  go_enter Tryd.func15, Tryd.ntmps15
  go_upto_region 2 with (fail)
  have H1' : Hid (Rz8 w N A c l ((w.alloc (.cells #[.slice none 0 0, .slice none 0 0, .slice none 0 0, .int .i64 0] 25)).alloc (.cells #[.slice none 0 0, .slice none 0 0, .slice none 0 0, .int .i64 0] 25))) := H1
  clear H1
  generalize (w.alloc (.cells #[.slice none 0 0, .slice none 0 0, .slice none 0 0, .int .i64 0] 25)).alloc (.cells #[.slice none 0 0, .slice none 0 0, .slice none 0 0, .int .i64 0] 25) = w2 at *
  have S2 := H1'
  clear H1'
  clear hN hn
  by_cases h2 : 2000 < n
  · skip
    have HN : Hid (R = (Md.zero, 3)) := by
      have h := HRR.out
      rw [qP, if_pos (by rw [HLN.out]; omega)] at h
      exact h.symm
    have HE := Lib.hid (S2.out.bad)
    obtain ⟨-, ⟨⟨m0, mf⟩, ⟨m1, x0, x1, x2, x3⟩⟩, ⟨⟨o0, of⟩, ⟨o1, t0, t1, t2, t3⟩⟩, -⟩ := S2.out
    have mf0 := mf 0
    have mf1 := mf 1
    have mf2 := mf 2
    have mf3 := mf 3
    clear mf S2
    go_wp2_with fail
    obtain rfl := HN.out
    obtain ⟨b1, b2, b3⟩ := HE.out
    exact rparse_end _ _ N Ma.zero Md.zero 3 rfl rfl b1 _ ⟨Ma.zero, rfl, b2, b3⟩
  · have hl2 : l.length ≤ 2000 := by rw [HLN.out]; omega
    have HL2 := Lib.hid hl2
    clear hl2
    have HJ0 : Hid (R = qPg l (rdP l 0)) := by
      have h := HRR.out
      rw [qP, if_neg (by rw [HLN.out]; omega)] at h
      exact h.symm
    obtain ⟨g, q1, e1, hP1⟩ : ∃ g q e, rdP l 0 = (g, q, e) := ⟨_, _, _, rfl⟩
    have HP1 := Lib.hid hP1
    clear hP1
    go_wp2_with fail
    refine (r6readw_v A c n l 0 _ S2.out.2.2.2.1 HLN.out HL2.out).mono ?_
    rintro r w3 ⟨A1, c1, rfl, hrv, how, hb⟩
    rw [HP1.out] at hrv how ⊢
    dsimp only at hrv how ⊢
    have S3 := Lib.hid (S2.out.call hb)
    have HO1 := Lib.hid (own_base how (Nat.succ_le_of_lt S2.out.2.2.1.1.1))
    have HV1 := Lib.hid hrv.1
    clear hrv how hb S2
    by_cases he1 : e1 = 0
    · subst he1
      by_cases hg4 : 4 < g.length
      · skip
        have HN : Hid (R = (Md.zero, 80)) := by
          have h := HJ0.out
          rw [HP1.out, qPg] at h
          dsimp only at h
          rw [if_pos rfl, if_pos hg4] at h
          exact h
        have HE := Lib.hid (S3.out.bad)
        obtain ⟨-, ⟨⟨m0, mf⟩, ⟨m1, x0, x1, x2, x3⟩⟩, ⟨⟨o0, of⟩, ⟨o1, t0, t1, t2, t3⟩⟩, -⟩ := S3.out
        have mf0 := mf 0
        have mf1 := mf 1
        have mf2 := mf 2
        have mf3 := mf 3
        clear mf S3
        go_wp2_with fail
        obtain rfl := HN.out
        obtain ⟨b1, b2, b3⟩ := HE.out
        exact rparse_end _ _ N Ma.zero Md.zero 80 rfl rfl b1 _ ⟨Ma.zero, rfl, b2, b3⟩
      · have HJ1 : Hid (R = qPm l g (rdP l q1)) := by
          have h := HJ0.out
          rw [HP1.out, qPg] at h
          dsimp only at h
          rw [if_pos rfl, if_neg hg4] at h
          exact h
        clear HJ0 HP1
        obtain ⟨p, q2, e2, hP2⟩ : ∃ g q e, rdP l q1 = (g, q, e) := ⟨_, _, _, rfl⟩
        have HP2 := Lib.hid hP2
        clear hP2
        go_wp2_with fail
        refine (r6readw_v A c n l q1 _ S3.out.2.2.2.1 HLN.out HL2.out).mono ?_
        rintro r w4 ⟨A2, c2, rfl, hrv, how, hb⟩
        rw [HP2.out] at hrv how ⊢
        dsimp only at hrv how ⊢
        have S4 := Lib.hid (S3.out.call hb)
        have HO1b := Lib.hid (own_below HO1.out hb (Nat.le_refl _))
        have HO2 := Lib.hid (own_base how (Nat.succ_le_of_lt S3.out.2.2.1.1.1))
        have HV2 := Lib.hid hrv.1
        clear hrv how hb S3 HO1
        by_cases he2 : e2 = 0
        · subst he2
          obtain ⟨many, hu⟩ : ∃ u, getV l q2 1 = u := ⟨_, rfl⟩
          obtain ⟨q3, hq⟩ : ∃ q, getN l q2 1 = q := ⟨_, rfl⟩
          obtain ⟨e3, hE⟩ : ∃ e, getE l q2 1 = e := ⟨_, rfl⟩
          have hb8 := one8 HBY.out q2
          rw [hu, hq] at hb8
          have HJ2 : Hid (R = if e3 = 0 then (if 16 < many then (Md.zero, 80) else qPs l g p many (qms l many.toNat q3)) else (Md.zero, e3)) := by
            have h := HJ1.out
            rw [HP2.out, qPm] at h
            dsimp only at h
            rw [if_pos rfl, hE, hu, hq] at h
            exact h
          clear HJ1 HP2
          have HK := Lib.hid (rget_m8 A c n l q2 _ S4.out.2.2.2.1 HLN.out HL2.out)
          rw [hu, hq, hE] at HK
          have HB8 := Lib.hid hb8
          clear hb8 hu hq hE
          go_wp2_with fail
          refine HK.out.mono ?_
          rintro r w5 ⟨rfl, rfl⟩
          clear HK
          by_cases he3 : e3 = 0
          · subst he3
            by_cases hm16 : 16 < many
            · skip
              have HN : Hid (R = (Md.zero, 80)) := by
                have h := HJ2.out
                rw [if_pos rfl, if_pos hm16] at h
                exact h
              have HE := Lib.hid (S4.out.bad)
              obtain ⟨-, ⟨⟨m0, mf⟩, ⟨m1, x0, x1, x2, x3⟩⟩, ⟨⟨o0, of⟩, ⟨o1, t0, t1, t2, t3⟩⟩, -⟩ := S4.out
              have mf0 := mf 0
              have mf1 := mf 1
              have mf2 := mf 2
              have mf3 := mf 3
              clear mf S4
              go_wp2_with fail
              obtain rfl := HN.out
              obtain ⟨b1, b2, b3⟩ := HE.out
              exact rparse_end _ _ N Ma.zero Md.zero 80 rfl rfl b1 _ ⟨Ma.zero, rfl, b2, b3⟩
            · obtain ⟨M, rfl⟩ : ∃ M : Nat, many = M := ⟨many.toNat, by have := HB8.out.1.1; omega⟩
              have HJ3 : Hid (R = qPs l g p M (apM [] (qms l (M - 0) q3))) := by
                have h := HJ2.out
                rw [if_pos rfl, if_neg hm16, Int.toNat_natCast] at h
                rw [Hid, h, apM_nil _ (qms_err l _ _)]
                rfl
              have hM16 : M ≤ 16 := by omega
              clear HJ2 HB8 hm16
              have HT := Lib.hid (Rl8.start S4.out g p HO1b.out HO2.out)
              clear S4 HO1b HO2
              go_upto_region 18 with (fail)
              generalize w4.alloc (.cells #[.slice A1 g.length c1, .slice A2 p.length c2, .slice none 0 0, .int .i64 0] 25) = w5 at HT ⊢
              obtain ⟨T, hT⟩ : ∃ T, w4.heap.size = T := ⟨_, rfl⟩
              rw [hT] at HT ⊢
              clear hT
              go_loopw [6] (fun o wr => ∃ (j : Nat) (q : Int) (Zs : List Me) (A3 : Option Addr) (c3 : Nat), j ≤ M ∧ o = .int .i64 q ∧ Hid (R = qPs l g p M (apM (Zs.map ze) (qms l (M - j) q))) ∧ Hid (Rl8 w N A c l T A1 A2 A3 c1 c2 c3 ⟨g, p, [], 0⟩ Zs j wr)) (fun _ wr => M - mlen wr T)
              case atStart => exact ⟨0, q3, [], none, 0, by omega, rfl, HJ3, HT⟩
              case round =>
                obtain ⟨j, q, Zs, A3, c3, hj, rfl, HX, HR⟩ := hrel
                clear HJ3 HT
                obtain ⟨t0, t1, t2, t3, t4⟩ := HR.out.2.2.1
                dsimp only at t1 t2 t4
                by_cases h1 : j < M
                · obtain ⟨m, n2, e2, hrd⟩ : ∃ m n2 e2, rdQ l q = (m, n2, e2) := ⟨_, _, _, rfl⟩
                  have HRD := Lib.hid hrd
                  have HK := fun w hr => Lib.hid (r7readw_v A c n l q (m, n2, e2) w hr HLN.out HL2.out hrd)
                  have HML := Lib.hid (mlen_of t3)
                  clear hrd
                  go_wp2_with fail
                  refine (HK _ HR.out.1.2.2.2.1).out.mono ?_
                  rintro r w6 ⟨⟨XA, xc, XB, xd, XD, xk, xe⟩, rfl, hhd, ⟨hoA, hoB, hxD, hxk, hxe⟩, hb⟩
                  dsimp only at hoA hoB hxD hxk hxe
                  subst hxD hxk hxe
                  have hNT : N + 2 ≤ T := HR.out.2.2.2.2.2.2.2.2.2
                  have hTw : N + 2 ≤ wr.heap.size := Nat.le_trans hNT (Nat.le_of_lt HR.out.2.1.1)
                  have HR6 := Lib.hid (HR.out.call hb)
                  have HHD := Lib.hid hhd
                  have HOA := Lib.hid (own_base hoA hTw)
                  have HOB := Lib.hid (own_base hoB hTw)
                  have Q1 := Lib.hid (Tz.new w6 ⟨XA, xc, XB, xd, none, 0, 0⟩ m)
                  have hTx : N + 2 ≤ w6.heap.size := Nat.le_trans hTw hb.size
                  clear HK hhd hoA hoB hb HR t0 t1 t2 t3 t4
                  go_upto_region 20 with (fail)
                  obtain ⟨wb, hwb⟩ : ∃ wb, w6.alloc (hcel ⟨XA, xc, XB, xd, none, 0, 0⟩ m) = wb := ⟨_, rfl⟩
                  rw [hwb] at Q1
                  rw [hcel] at hwb
                  dsimp only at hwb
                  rw [hwb]
                  obtain ⟨Tx, hTxe⟩ : ∃ Tx, w6.heap.size = Tx := ⟨_, rfl⟩
                  have HTx := Lib.hid hTxe
                  rw [hTxe] at Q1 hTx ⊢
                  clear hwb hTxe
                  by_cases he2 : e2 = 0
                  · subst he2
                    obtain ⟨f, L, t, hrc⟩ : ∃ f L t, rdC l n2 = (f, L, t) := ⟨_, _, _, rfl⟩
                    have HRC := Lib.hid hrc
                    have HK2 := fun w hr => Lib.hid (r5read_any A c n l n2 w hr HLN.out)
                    rw [hrc] at HK2
                    dsimp only at HK2
                    clear hrc
                    go_wp2_with fail
                    refine (HK2 _ (HR6.out.call (w' := wb) (HTx.out ▸ Q1.out.1)).1.2.2.2.1).out.mono ?_
                    rintro r w8 ⟨A6, c6, rfl, hoD, hb⟩
                    have Q2 := Lib.hid (Q1.out.call hb)
                    have HOD : Hid (w8.ownsRow (Tx + 1) 86 3 (.slice A6 L.length c6) L.length (cei L)) := Lib.hid (own_base hoD (Nat.succ_le_of_lt Q1.out.2.1.1))
                    clear HK2 hoD hb Q1
                    by_cases hf : f = 0
                    · subst hf
                      have HIN := Lib.hid (rdC_inv HBY.out HRC.out).2.1
                      have Q3 := Lib.hid (Q2.out.set (x2 := ⟨XA, xc, XB, xd, A6, L.length, c6⟩) 7 (.slice A6 L.length c6) (Q2.out.2.2.setD A6 L.length c6))
                      have HOD9 : Hid ((w8.setCell ⟨Tx, 7, none⟩ (.slice A6 L.length c6)).ownsRow (Tx + 1) 86 3 (.slice A6 L.length c6) L.length (cei L)) := Lib.hid (ownsRow_setCell_below HOD.out (by show Tx < _; omega) _)
                      obtain ⟨f0, f1, f2, f3, f4, f5, f6, f7⟩ := Q2.out.2.1.keepM
                      obtain ⟨z0, z1, z2, z3, z4, z5, z6, z7, z8⟩ := Q2.out.2.2
                      dsimp only at z1 z2 z8
                      go_upto_region 26 with (fail)
                      clear f0 f1 f2 f3 f4 f5 f6 f7 z0 z1 z2 z3 z4 z5 z6 z7 z8 Q2 HOD
                      generalize w8.setCell ⟨Tx, 7, none⟩ (.slice A6 L.length c6) = w9 at Q3 HOD9 ⊢
                      have HR9 := Lib.hid (HR6.out.call (w' := w9) (HTx.out ▸ Q3.out.1))
                      have HW : Hid (Wz w9 (N + 2) ⟨⟨XA, xc, XB, xd, A6, L.length, c6⟩, m, L⟩) := Lib.hid ⟨⟨HHD.out.1.byt, HHD.out.2.1.byt, HHD.out.2.2, HIN.out, rfl⟩, own_below HOA.out (HTx.out ▸ Q3.out.1) (Nat.le_refl _), own_below HOB.out (HTx.out ▸ Q3.out.1) (Nat.le_refl _), own_base HOD9.out (Nat.le_succ_of_le hTx)⟩
                      clear HHD HIN HOA HOB HOD9 HR6
                      have HR10 := Lib.hid (HR9.out.call (new1 (a := .cells (ce8 ⟨⟨XA, xc, XB, xd, A6, L.length, c6⟩, m, L⟩).toArray 49)))
                      have HW10 := Lib.hid (HW.out.keep (new1 (a := .cells (ce8 ⟨⟨XA, xc, XB, xd, A6, L.length, c6⟩, m, L⟩).toArray 49)))
                      obtain ⟨z0, z1, z2, z3, z4, z5, z6, z7, z8⟩ := Q3.out.2.2
                      dsimp only at z1 z2 z8
                      obtain ⟨t0, t1, t2, t3, t4⟩ := HR9.out.2.2.1
                      dsimp only at t1 t2 t4
                      go_wp2_with (at_builtin; refine wpList_append_rm _ rfl (.tmp 95) (.tmp 97) rfl (N + 2) (.slice A3 j c3) j Zs rfl HR10.out.2.2.2.2.2.2.1 ⟨w9.heap.size, 0, none⟩ ⟨⟨XA, xc, XB, xd, A6, L.length, c6⟩, m, L⟩ rfl (ce8_new w9 _ _) (by omega) (Nat.le_trans hNT (Nat.le_of_lt HR10.out.2.1.1)) ?_)
                      intro A7 c7 w11 ho1 hg1 hb1 _
                      have HR11 := Lib.hid (HR10.out.grow hg1 hb1 HA.out HW10.out ho1)
                      have HR12 := Lib.hid (HR11.out.put HA.out)
                      clear ho1 hg1 hb1 HR9 HR10 HW HW10 Q3 z0 z1 z2 z3 z4 z5 z6 z7 z8 t0 t1 t2 t3 t4
                      have HX12 : Hid (R = qPs l g p M (apM ((Zs ++ [(⟨⟨XA, xc, XB, xd, A6, L.length, c6⟩, m, L⟩ : Me)]).map ze) (qms l (M - (j + 1)) t))) := by
                        have h := HX.out
                        rw [show M - j = (M - (j + 1)) + 1 by omega, qms_yes HRD.out HRC.out, apM_apM] at h
                        rw [Hid, List.map_append]
                        exact h
                      obtain ⟨t0, t1, t2, t3, t4⟩ := HR11.out.2.2.1
                      dsimp only at t1 t2 t4
                      have f2 := HR11.out.2.1.2 2
                      clear HX HRD HRC
                      go_wp2_with fail
                      go_roundw
                      case rel => exact ⟨j + 1, t, Zs ++ [⟨⟨XA, xc, XB, xd, A6, L.length, c6⟩, m, L⟩], A7, c7, by omega, rfl, HX12, HR12⟩
                      case measure =>
                        rw [HML.out, mlen_of HR12.out.2.2.1.2.2.2.1]
                        omega
                    · have SZ := Lib.hid (HR6.out.call (w' := w8) (HTx.out ▸ Q2.out.1)).1
                      clear HR6 HOD HOA HOB Q2
                      have HN : Hid (R = (Md.zero, f)) := by
                        have h := HX.out
                        rw [show M - j = (M - (j + 1)) + 1 by omega, qms_no2 HRD.out HRC.out hf, apM_no hf, qPs] at h
                        dsimp only at h
                        rw [if_neg hf] at h
                        exact h
                      have HE := Lib.hid (SZ.out.bad)
                      obtain ⟨-, ⟨⟨m0, mf⟩, ⟨m1, x0, x1, x2, x3⟩⟩, ⟨⟨o0, of⟩, ⟨o1, r0, r1, r2, r3⟩⟩, -⟩ := SZ.out
                      have mf0 := mf 0
                      have mf1 := mf 1
                      have mf2 := mf 2
                      have mf3 := mf 3
                      clear mf SZ
                      go_wp2_with fail
                      obtain rfl := HN.out
                      obtain ⟨b1, b2, b3⟩ := HE.out
                      exact rparse_end _ _ N Ma.zero Md.zero f rfl rfl b1 _ ⟨Ma.zero, rfl, b2, b3⟩
                  · have SZ := Lib.hid (HR6.out.call (w' := wb) (HTx.out ▸ Q1.out.1)).1
                    clear HR6 HOA HOB Q1
                    have HN : Hid (R = (Md.zero, e2)) := by
                      have h := HX.out
                      rw [show M - j = (M - (j + 1)) + 1 by omega, qms_no HRD.out he2, apM_no he2, qPs] at h
                      dsimp only at h
                      rw [if_neg he2] at h
                      exact h
                    have HE := Lib.hid (SZ.out.bad)
                    obtain ⟨-, ⟨⟨m0, mf⟩, ⟨m1, x0, x1, x2, x3⟩⟩, ⟨⟨o0, of⟩, ⟨o1, r0, r1, r2, r3⟩⟩, -⟩ := SZ.out
                    have mf0 := mf 0
                    have mf1 := mf 1
                    have mf2 := mf 2
                    have mf3 := mf 3
                    clear mf SZ
                    go_wp2_with fail
                    obtain rfl := HN.out
                    obtain ⟨b1, b2, b3⟩ := HE.out
                    exact rparse_end _ _ N Ma.zero Md.zero e2 rfl rfl b1 _ ⟨Ma.zero, rfl, b2, b3⟩
                · obtain rfl : j = M := by omega
                  obtain ⟨ss, hss⟩ : ∃ ss, Zs.map ze = ss := ⟨_, rfl⟩
                  have HSS := Lib.hid hss
                  have hM : j = ss.length := by rw [← hss, List.length_map]; exact HR.out.2.2.2.2.2.2.2.2.1.symm
                  obtain ⟨u, hu⟩ : ∃ u, getV l q 1 = u := ⟨_, rfl⟩
                  obtain ⟨q4, hq⟩ : ∃ q4, getN l q 1 = q4 := ⟨_, rfl⟩
                  obtain ⟨e4, hE⟩ : ∃ e, getE l q 1 = e := ⟨_, rfl⟩
                  have hb8 := one8 HBY.out q
                  rw [hu, hq] at hb8
                  have HB8 := Lib.hid hb8
                  have HJ4 : Hid (R = if e4 = 0 then (if ((ss.length : Int) ≤ u ∧ u ≠ 255) ∨ q4 < l.length then (Md.zero, 80) else (⟨g, p, ss, if u = 255 then -1 else u⟩, 0)) else (Md.zero, e4)) := by
                    have h := HX.out
                    rw [Nat.sub_self, qms, apM, if_pos rfl, List.append_nil, hss, qPs] at h
                    dsimp only at h
                    rw [if_pos rfl, qPz, hE, hu, hq, hM] at h
                    exact h
                  have HK := Lib.hid (rget_m8 A c n l q _ HR.out.1.2.2.2.1 HLN.out HL2.out)
                  rw [hu, hq, hE] at HK
                  clear hb8 hu hq hE HX hss
                  subst hM
                  have HML := HSS
                  clear HML
                  go_wp2_with fail
                  refine HK.out.mono ?_
                  rintro r w5b ⟨rfl, rfl⟩
                  clear HK
                  have SZ := Lib.hid HR.out.1
                  by_cases he4 : e4 = 0
                  · subst he4
                    by_cases ca : (ss.length : Int) ≤ u
                    · by_cases cb : u = 255
                      · by_cases cc : q4 < (n : Int)
                        · skip
                          subst cb
                          have HN : Hid (R = (Md.zero, 80)) := by
                            have h := HJ4.out
                            rw [if_pos rfl, if_pos (Or.inr (by rw [HLN.out]; exact cc))] at h
                            exact h
                          have HE := Lib.hid (SZ.out.bad)
                          obtain ⟨-, ⟨⟨m0, mf⟩, ⟨m1, x0, x1, x2, x3⟩⟩, ⟨⟨o0, of⟩, ⟨o1, r0, r1, r2, r3⟩⟩, -⟩ := SZ.out
                          have mf0 := mf 0
                          have mf1 := mf 1
                          have mf2 := mf 2
                          have mf3 := mf 3
                          clear mf SZ
                          go_wp2_with fail
                          obtain rfl := HN.out
                          obtain ⟨b1, b2, b3⟩ := HE.out
                          exact rparse_end _ _ N Ma.zero Md.zero 80 rfl rfl b1 _ ⟨Ma.zero, rfl, b2, b3⟩
                        · skip
                          subst cb
                          have HN : Hid (R = (⟨g, p, ss, -1⟩, 0)) := by
                            have h := HJ4.out
                            have hln := HLN.out
                            rw [if_pos rfl, if_neg (by rw [hln]; omega), if_pos rfl] at h
                            exact h
                          have HR2 := Lib.hid ((HR.out.last 255 HA.out).last (-1) HA.out)
                          have tf3 := HR.out.2.1.2 3
                          clear SZ
                          go_upto_region 36 with (fail)
                          clear t0 t1 t2 t3 t4 tf3 HR
                          generalize ((wr.setCell ⟨T, 3, none⟩ (.int .i64 255)).setCell ⟨T, 3, none⟩ (.int .i64 (-1))) = wf at HR2 ⊢
                          have HE := Lib.hid (Rl8.fin (d := ⟨g, p, ss, (-1)⟩) HR2.out HV1.out HV2.out (by dsimp only; have := HB8.out; omega) HSS.out)
                          obtain ⟨t0, t1, t2, t3, t4⟩ := HR2.out.2.2.1
                          dsimp only at t1 t2 t4
                          obtain ⟨-, ⟨⟨m0, mf⟩, ⟨m1, x0, x1, x2, x3⟩⟩, -⟩ := HR2.out.1
                          have mf0 := mf 0
                          have mf1 := mf 1
                          have mf2 := mf 2
                          have mf3 := mf 3
                          clear mf HR2
                          go_wp2_with fail
                          obtain rfl := HN.out
                          obtain ⟨b1, b2, b3⟩ := HE.out
                          exact rparse_end _ _ N ⟨A1, c1, A2, c2, A3, c3, Zs⟩ ⟨g, p, ss, (-1)⟩ 0 rfl rfl b1 _ ⟨⟨A1, c1, A2, c2, A3, c3, Zs⟩, rfl, b2, b3⟩
                      · by_cases cc : q4 < (n : Int)
                        · skip
                          have HN : Hid (R = (Md.zero, 80)) := by
                            have h := HJ4.out
                            rw [if_pos rfl, if_pos (Or.inr (by rw [HLN.out]; exact cc))] at h
                            exact h
                          have HE := Lib.hid (SZ.out.bad)
                          obtain ⟨-, ⟨⟨m0, mf⟩, ⟨m1, x0, x1, x2, x3⟩⟩, ⟨⟨o0, of⟩, ⟨o1, r0, r1, r2, r3⟩⟩, -⟩ := SZ.out
                          have mf0 := mf 0
                          have mf1 := mf 1
                          have mf2 := mf 2
                          have mf3 := mf 3
                          clear mf SZ
                          go_wp2_with fail
                          obtain rfl := HN.out
                          obtain ⟨b1, b2, b3⟩ := HE.out
                          exact rparse_end _ _ N Ma.zero Md.zero 80 rfl rfl b1 _ ⟨Ma.zero, rfl, b2, b3⟩
                        · skip
                          have HN : Hid (R = (Md.zero, 80)) := by
                            have h := HJ4.out
                            rw [if_pos rfl, if_pos (Or.inl ⟨ca, cb⟩)] at h
                            exact h
                          have HE := Lib.hid (SZ.out.bad)
                          obtain ⟨-, ⟨⟨m0, mf⟩, ⟨m1, x0, x1, x2, x3⟩⟩, ⟨⟨o0, of⟩, ⟨o1, r0, r1, r2, r3⟩⟩, -⟩ := SZ.out
                          have mf0 := mf 0
                          have mf1 := mf 1
                          have mf2 := mf 2
                          have mf3 := mf 3
                          clear mf SZ
                          go_wp2_with fail
                          obtain rfl := HN.out
                          obtain ⟨b1, b2, b3⟩ := HE.out
                          exact rparse_end _ _ N Ma.zero Md.zero 80 rfl rfl b1 _ ⟨Ma.zero, rfl, b2, b3⟩
                    · by_cases cb : u = 255
                      · by_cases cc : q4 < (n : Int)
                        · skip
                          exfalso
                          omega
                        · skip
                          exfalso
                          omega
                      · by_cases cc : q4 < (n : Int)
                        · skip
                          have HN : Hid (R = (Md.zero, 80)) := by
                            have h := HJ4.out
                            rw [if_pos rfl, if_pos (Or.inr (by rw [HLN.out]; exact cc))] at h
                            exact h
                          have HE := Lib.hid (SZ.out.bad)
                          obtain ⟨-, ⟨⟨m0, mf⟩, ⟨m1, x0, x1, x2, x3⟩⟩, ⟨⟨o0, of⟩, ⟨o1, r0, r1, r2, r3⟩⟩, -⟩ := SZ.out
                          have mf0 := mf 0
                          have mf1 := mf 1
                          have mf2 := mf 2
                          have mf3 := mf 3
                          clear mf SZ
                          go_wp2_with fail
                          obtain rfl := HN.out
                          obtain ⟨b1, b2, b3⟩ := HE.out
                          exact rparse_end _ _ N Ma.zero Md.zero 80 rfl rfl b1 _ ⟨Ma.zero, rfl, b2, b3⟩
                        · skip
                          have HN : Hid (R = (⟨g, p, ss, u⟩, 0)) := by
                            have h := HJ4.out
                            have hln := HLN.out
                            rw [if_pos rfl, if_neg (by rw [hln]; omega), if_neg cb] at h
                            exact h
                          have HR2 := Lib.hid (HR.out.last u HA.out)
                          have tf3 := HR.out.2.1.2 3
                          clear SZ
                          go_upto_region 36 with (fail)
                          clear t0 t1 t2 t3 t4 tf3 HR
                          generalize (wr.setCell ⟨T, 3, none⟩ (.int .i64 u)) = wf at HR2 ⊢
                          have HE := Lib.hid (Rl8.fin (d := ⟨g, p, ss, u⟩) HR2.out HV1.out HV2.out (by dsimp only; have := HB8.out; omega) HSS.out)
                          obtain ⟨t0, t1, t2, t3, t4⟩ := HR2.out.2.2.1
                          dsimp only at t1 t2 t4
                          obtain ⟨-, ⟨⟨m0, mf⟩, ⟨m1, x0, x1, x2, x3⟩⟩, -⟩ := HR2.out.1
                          have mf0 := mf 0
                          have mf1 := mf 1
                          have mf2 := mf 2
                          have mf3 := mf 3
                          clear mf HR2
                          go_wp2_with fail
                          obtain rfl := HN.out
                          obtain ⟨b1, b2, b3⟩ := HE.out
                          exact rparse_end _ _ N ⟨A1, c1, A2, c2, A3, c3, Zs⟩ ⟨g, p, ss, u⟩ 0 rfl rfl b1 _ ⟨⟨A1, c1, A2, c2, A3, c3, Zs⟩, rfl, b2, b3⟩
                  · have hne : (e4 != 0) = true := by simpa using he4
                    clear HR t0 t1 t2 t3 t4
                    have HN : Hid (R = (Md.zero, e4)) := by
                      have h := HJ4.out
                      rw [if_neg he4] at h
                      exact h
                    have HE := Lib.hid (SZ.out.bad)
                    obtain ⟨-, ⟨⟨m0, mf⟩, ⟨m1, x0, x1, x2, x3⟩⟩, ⟨⟨o0, of⟩, ⟨o1, r0, r1, r2, r3⟩⟩, -⟩ := SZ.out
                    have mf0 := mf 0
                    have mf1 := mf 1
                    have mf2 := mf 2
                    have mf3 := mf 3
                    clear mf SZ
                    go_wp2_with fail
                    obtain rfl := HN.out
                    obtain ⟨b1, b2, b3⟩ := HE.out
                    exact rparse_end _ _ N Ma.zero Md.zero e4 rfl rfl b1 _ ⟨Ma.zero, rfl, b2, b3⟩
          · have hne : (e3 != 0) = true := by simpa using he3
            have HN : Hid (R = (Md.zero, e3)) := by
              have h := HJ2.out
              rw [if_neg he3] at h
              exact h
            have HE := Lib.hid (S4.out.bad)
            obtain ⟨-, ⟨⟨m0, mf⟩, ⟨m1, x0, x1, x2, x3⟩⟩, ⟨⟨o0, of⟩, ⟨o1, t0, t1, t2, t3⟩⟩, -⟩ := S4.out
            have mf0 := mf 0
            have mf1 := mf 1
            have mf2 := mf 2
            have mf3 := mf 3
            clear mf S4
            go_wp2_with fail
            obtain rfl := HN.out
            obtain ⟨b1, b2, b3⟩ := HE.out
            exact rparse_end _ _ N Ma.zero Md.zero e3 rfl rfl b1 _ ⟨Ma.zero, rfl, b2, b3⟩
        · have hne : (e2 != 0) = true := by simpa using he2
          have HN : Hid (R = (Md.zero, e2)) := by
            have h := HJ1.out
            rw [HP2.out, qPm] at h
            dsimp only at h
            rw [if_neg he2] at h
            exact h
          have HE := Lib.hid (S4.out.bad)
          obtain ⟨-, ⟨⟨m0, mf⟩, ⟨m1, x0, x1, x2, x3⟩⟩, ⟨⟨o0, of⟩, ⟨o1, t0, t1, t2, t3⟩⟩, -⟩ := S4.out
          have mf0 := mf 0
          have mf1 := mf 1
          have mf2 := mf 2
          have mf3 := mf 3
          clear mf S4
          go_wp2_with fail
          obtain rfl := HN.out
          obtain ⟨b1, b2, b3⟩ := HE.out
          exact rparse_end _ _ N Ma.zero Md.zero e2 rfl rfl b1 _ ⟨Ma.zero, rfl, b2, b3⟩
    · have hne : (e1 != 0) = true := by simpa using he1
      have HN : Hid (R = (Md.zero, e1)) := by
        have h := HJ0.out
        rw [HP1.out, qPg] at h
        dsimp only at h
        rw [if_neg he1] at h
        exact h
      have HE := Lib.hid (S3.out.bad)
      obtain ⟨-, ⟨⟨m0, mf⟩, ⟨m1, x0, x1, x2, x3⟩⟩, ⟨⟨o0, of⟩, ⟨o1, t0, t1, t2, t3⟩⟩, -⟩ := S3.out
      have mf0 := mf 0
      have mf1 := mf 1
      have mf2 := mf 2
      have mf3 := mf 3
      clear mf S3
      go_wp2_with fail
      obtain rfl := HN.out
      obtain ⟨b1, b2, b3⟩ := HE.out
      exact rparse_end _ _ N Ma.zero Md.zero e1 rfl rfl b1 _ ⟨Ma.zero, rfl, b2, b3⟩
end Go.Proofs.YteimpkjpoijhmaaDoor
