/-
  Layer 8, package module: what Parse answers: the module, in memory of the call's own.
-/
import Derived.Test.YteimpkjpoijhmaaDoorNp
namespace Go.Proofs.YteimpkjpoijhmaaDoor
open Go.RowKit
set_option maxRecDepth 100000
set_option linter.unusedSimpArgs false
set_option linter.unusedVariables false

/-- The readers' cells. -/
abbrev fcel (B : Nat) : Array Value := #[.func (.func 75) #[] #[.pointer (some ⟨B, 0, none⟩), .pointer (some ⟨B + 2, 0, none⟩), .pointer (some ⟨B + 1, 0, none⟩)],
  .func (.func 77) #[] #[.pointer (some ⟨B, 0, none⟩), .pointer (some ⟨B + 2, 0, none⟩), .pointer (some ⟨B + 1, 0, none⟩)],
  .func (.func 78) #[] #[.pointer (some ⟨B, 0, none⟩), .pointer (some ⟨B + 2, 0, none⟩), .pointer (some ⟨B + 3, 0, none⟩)],
  .func (.func 80) #[] #[.pointer (some ⟨B, 0, none⟩), .pointer (some ⟨B + 2, 0, none⟩), .pointer (some ⟨B + 3, 0, none⟩), .pointer (some ⟨B + 1, 0, none⟩)],
  .func (.func 82) #[] #[.pointer (some ⟨B, 0, none⟩), .pointer (some ⟨B + 2, 0, none⟩), .pointer (some ⟨B + 4, 0, none⟩), .pointer (some ⟨B + 1, 0, none⟩)],
  .func (.func 84) #[] #[.pointer (some ⟨B + 2, 0, none⟩), .pointer (some ⟨B, 0, none⟩)]]
theorem Fs.new (w : World) (B t : Nat) (hs : w.heap.size = B + 5) : Fs (w.alloc (.cells (fcel B) t)) B := by
  unfold Fs
  rw [← hs]
  refine ⟨by simp, ?_, ?_, ?_, ?_, ?_, ?_⟩ <;> simp [go_sem, fcel]
theorem pq_new {w0 w : World} {N M : Nat} {A : Option Addr} {c n : Nat} {l : List Int} (hb : Below w0.heap.size w0 w) (hN : Mf w N ∧ Db w N Ma.zero Md.zero) (hM : Mf w M ∧ Db w M Ma.zero Md.zero) (h0 : w0.heap.size ≤ N ∧ N < M ∧ M < w.heap.size) (B : Nat) (hB : w.heap.size = B) (t1 t2 t3 t6 : Nat) :
    Pq w0 ((((((w.alloc (.cells #[.slice A n c] t1)).alloc (.cells #[.pointer (some ⟨M, 0, none⟩)] t2)).alloc (.cells #[.int .i64 0] t3)).alloc (.cells #[.int .i64 0] t3)).alloc (.cells #[.int .i64 0] t3)).alloc (.cells (fcel B) t6)) N M B A c n l 0 0 0 Ma.zero Md.zero := by
  subst hB
  have k1 := C1.new w (.slice A n c) t1
  have k2 := C1.new (w.alloc (.cells #[.slice A n c] t1)) (.pointer (some ⟨M, 0, none⟩)) t2
  have k3 := C1.new ((w.alloc (.cells #[.slice A n c] t1)).alloc (.cells #[.pointer (some ⟨M, 0, none⟩)] t2)) (.int .i64 0) t3
  have k4 := C1.new (((w.alloc (.cells #[.slice A n c] t1)).alloc (.cells #[.pointer (some ⟨M, 0, none⟩)] t2)).alloc (.cells #[.int .i64 0] t3)) (.int .i64 0) t3
  have k5 := C1.new ((((w.alloc (.cells #[.slice A n c] t1)).alloc (.cells #[.pointer (some ⟨M, 0, none⟩)] t2)).alloc (.cells #[.int .i64 0] t3)).alloc (.cells #[.int .i64 0] t3)) (.int .i64 0) t3
  have k6 := Fs.new (((((w.alloc (.cells #[.slice A n c] t1)).alloc (.cells #[.pointer (some ⟨M, 0, none⟩)] t2)).alloc (.cells #[.int .i64 0] t3)).alloc (.cells #[.int .i64 0] t3)).alloc (.cells #[.int .i64 0] t3)) w.heap.size t6 (by simp)
  rw [size1] at k2
  rw [size1, size1] at k3
  rw [size1, size1, size1] at k4
  rw [size1, size1, size1, size1] at k5
  have b : Below w.heap.size w ((((((w.alloc (.cells #[.slice A n c] t1)).alloc (.cells #[.pointer (some ⟨M, 0, none⟩)] t2)).alloc (.cells #[.int .i64 0] t3)).alloc (.cells #[.int .i64 0] t3)).alloc (.cells #[.int .i64 0] t3)).alloc (.cells (fcel w.heap.size) t6)) :=
    ((((new1.alloc (by simp) _).alloc (by simp; omega) _).alloc (by simp; omega) _).alloc (by simp; omega) _).alloc (by simp; omega) _
  refine ⟨hb.trans (b.mono hb.size), ⟨⟨hN.1.keep b, hN.2.keep b⟩, k6⟩, ⟨hM.1.keep b, hM.2.keep b⟩, ((((k1.keep new1).keep new1).keep new1).keep new1).keep new1, (((k2.keep new1).keep new1).keep new1).keep new1, ((k3.keep new1).keep new1).keep new1, (k4.keep new1).keep new1, k5.keep new1, Oq.zero _ _, by simp, h0⟩
set_option maxHeartbeats 4000000 in
theorem parts8_v {w0 w : World} {N M : Nat} {A : Option Addr} {c n : Nat} {l : List Int} (hb : Below w0.heap.size w0 w) (hN : Mf w N ∧ Db w N Ma.zero Md.zero) (hM : Mf w M ∧ Db w M Ma.zero Md.zero) (h0 : w0.heap.size ≤ N ∧ N < M ∧ M < w.heap.size) (B : Nat) (hB : w.heap.size = B) :
    Calls Tryd.prog 47 #[.slice A n c, .pointer (some ⟨M, 0, none⟩)] w fun r w' => r = .returned (.slice (some ⟨B + 5, 0, none⟩) 6 6) ∧ Pq w0 w' N M B A c n l 0 0 0 Ma.zero Md.zero := by
  have HX := fun t1 t2 t3 t6 => Lib.hid (pq_new (A := A) (c := c) (n := n) (l := l) hb hN hM h0 B hB t1 t2 t3 t6)
  clear hb hN hM h0
  go_enter Tryd.func47, Tryd.ntmps47
  go_wp2_with fail
  go_ret
  exact ⟨rfl, (HX _ _ _ _).out⟩
theorem one8 {l : List Int} (hb : Byt l) (p : Int) : (0 ≤ getV l p 1 ∧ getV l p 1 ≤ 255) ∧ getN l p 1 ≤ l.length := by
  by_cases h : getE l p 1 = 0
  · obtain ⟨h0, h1⟩ := getE_1 h
    obtain ⟨a, rfl⟩ : ∃ a : Nat, p = a := ⟨p.toNat, by omega⟩
    rw [Int.toNat_natCast] at h1
    obtain ⟨-, e2, e3⟩ := get_1 hb h1
    rw [e2, e3, List.getElem?_eq_getElem h1, Option.getD_some]
    have := hb _ (List.getElem_mem h1)
    omega
  · obtain ⟨e1, e2, -⟩ := getE_bad rfl h
    rw [e1, e2]
    omega
theorem qms_len (l : List Int) : ∀ (k : Nat) (q : Int), (qms l k q).2.2 = 0 → (qms l k q).1.length = k
  | 0, q => fun _ => rfl
  | k + 1, q => fun h => by
    obtain ⟨m, n, e, hQ⟩ : ∃ m n e, rdQ l q = (m, n, e) := ⟨_, _, _, rfl⟩
    by_cases he : e = 0
    · subst he
      obtain ⟨f, K, t, hC⟩ : ∃ f K t, rdC l n = (f, K, t) := ⟨_, _, _, rfl⟩
      by_cases hf : f = 0
      · subst hf
        rw [qms_yes hQ hC] at h ⊢
        rw [apM] at h ⊢
        by_cases hr : (qms l k t).2.2 = 0
        · rw [if_pos hr]
          simp [qms_len l k t hr]
        · rw [if_neg hr] at h
          exact absurd h hr
      · rw [qms_no2 hQ hC hf] at h
        exact absurd h hf
    · rw [qms_no hQ he] at h
      exact absurd h he
/-- What is known of Parse's answer ahead of each reader. -/
def Jp (l : List Int) : Nat → Int → Int → Md → Prop
  | 0, p, k, d => qP l = qPg l (rdP l p)
  | 1, p, k, d => qP l = qPm l d.g (rdP l p)
  | 2, p, k, d => qP l = if getE l p 1 = 0 then (if 16 < getV l p 1 then (Md.zero, 80) else qPs l d.g d.p (getV l p 1) (qms l (getV l p 1).toNat (getN l p 1))) else (Md.zero, getE l p 1)
  | 3, p, k, d => (0 ≤ k ∧ k ≤ 16) ∧ qP l = qPs l d.g d.p k (qms l k.toNat p)
  | 4, p, k, d => (d.s.length : Int) = k ∧ qP l = qPz l d.g d.p k d.s p
  | 5, p, k, d => p ≤ l.length ∧ qP l = if p < l.length then (Md.zero, 80) else (d, 0)
  | _, p, k, d => qP l = (d, 0)
theorem mparse_end (tm : Array Value) (w' : World) (T : Nat) (y : Ma) (d : Md) (e : Int) (hT : tm[2]?.getD undef = .pointer (some ⟨T, 0, none⟩)) (h3 : tm[3]?.getD undef = .int .i64 e) (hM : Db w' T y d) (R : Ending → World → Prop)
    (hR : R (.returned (.tuple #[dv y d, .int .i64 e])) w') : bodyPost Tryd.prog Tryd.f16 R .ret { tmps := tm, defers := [] } w' := by
  obtain ⟨h0, c1, c2, c3, c4⟩ := hM
  exact bodyPost_ret (v := .tuple #[dv y d, .int .i64 e]) (by simp [results, Tryd.results16, go_sem, hT, h3, c1, c2, c3, c4]) rfl hR
/-- Parse's end with an error. -/
theorem Pq.bad {w0 w : World} {N M B : Nat} {A : Option Addr} {c n : Nat} {l : List Int} {p k t : Int} {y : Ma} {d : Md} (h : Pq w0 w N M B A c n l p k t y d) : Db (put4 w N Ma.zero Md.zero) N Ma.zero Md.zero ∧ Hq (put4 w N Ma.zero Md.zero) Ma.zero Md.zero ∧ Ow (put4 w N Ma.zero Md.zero) w0.heap.size (put4 w N Ma.zero Md.zero).heap.size Ma.zero Md.zero ∧ Below w0.heap.size w0 (put4 w N Ma.zero Md.zero) :=
  ⟨put4_db h.2.1.1.2 _ _, Hq.zero _, Ow.zero _ _ _, put4_below h.1 h.2.2.2.2.2.2.2.2.2.2.1 _ _⟩
theorem Pq.good {w0 w : World} {N M B : Nat} {A : Option Addr} {c n : Nat} {l : List Int} {p k t : Int} {y : Ma} {d : Md} (h : Pq w0 w N M B A c n l p k t y d) : Db (put4 w N y d) N y d ∧ Hq (put4 w N y d) y d ∧ Ow (put4 w N y d) w0.heap.size (put4 w N y d).heap.size y d ∧ Below w0.heap.size w0 (put4 w N y d) := by
  obtain ⟨h1, h2, h3, h4, h5, h6, h7, h8, h9, h10, h11⟩ := h
  have hl : ∀ i, (⟨N, i, none⟩ : Addr).block < B + 6 := fun i => by show N < B + 6; omega
  have k := (((h9.low (hl 0) (.slice y.G d.g.length y.gc)).low (hl 1) (.slice y.P d.p.length y.pc)).low (hl 2) (.slice y.A d.s.length y.c)).low (hl 3) (.int .i64 d.i)
  exact ⟨put4_db h2.1.2 _ _, k.hq, k.ow (by omega) (Nat.le_refl _), put4_below h1 h11.1 _ _⟩
set_option maxHeartbeats 8000000 in
theorem mparse_v (A : Option Addr) (c n : Nat) (l : List Int) (w : World) (hw : fWM.p w) (hr : Rd w A c l) (hn : l.length = n) (hl : n ≤ 3001) : Calls Tryd.prog 16 #[.slice A n c] w fun r w' => ∃ y, r = .returned (.tuple #[dv y (qP l).1, .int .i64 (qP l).2]) ∧ Hq w' y (qP l).1 ∧ Ow w' w.heap.size w'.heap.size y (qP l).1 ∧ Below w.heap.size w w' := by
  obtain ⟨N, hN⟩ : ∃ N, w.heap.size = N := ⟨_, rfl⟩
  obtain ⟨R, hR⟩ : ∃ R, qP l = R := ⟨_, rfl⟩
  have HRR := Lib.hid hR
  have HBY := Lib.hid hr.byt
  rw [hR]
  by_cases h2 : 2000 < n
  · have HN : Hid (R = (Md.zero, 3)) := by rw [Hid, ← hR, qP, if_pos (by omega)]
    clear hw hr hR hN HRR
    have H1 : Hid (Mf (w.alloc (dcel Ma.zero Md.zero)) w.heap.size ∧ Db (w.alloc (dcel Ma.zero Md.zero)) w.heap.size Ma.zero Md.zero) := Lib.hid ⟨Mf.new w _ _, Db.new w _ _⟩
    have HB1 : Hid (Below w.heap.size w (w.alloc (dcel Ma.zero Md.zero))) := Lib.hid new1
    go_enter Tryd.func16, Tryd.ntmps16
    go_wp2
    go_step3
    go_wp2_with fail
    rw [Exit.noGoto_ret]
    obtain rfl := HN.out
    exact mparse_end _ _ w.heap.size Ma.zero Md.zero 3 rfl rfl H1.out.2 _ ⟨Ma.zero, rfl, Hq.zero _, Ow.zero _ _ _, HB1.out⟩
  · have HJ : Hid (Jp l 0 0 0 Md.zero) := by rw [Hid, Jp, qP, if_neg (by omega)]
    have H1 : Hid ((Mf ((w.alloc (dcel Ma.zero Md.zero)).alloc (dcel Ma.zero Md.zero)) N ∧ Db ((w.alloc (dcel Ma.zero Md.zero)).alloc (dcel Ma.zero Md.zero)) N Ma.zero Md.zero) ∧ (Mf ((w.alloc (dcel Ma.zero Md.zero)).alloc (dcel Ma.zero Md.zero)) (N + 1) ∧ Db ((w.alloc (dcel Ma.zero Md.zero)).alloc (dcel Ma.zero Md.zero)) (N + 1) Ma.zero Md.zero) ∧ Below w.heap.size w ((w.alloc (dcel Ma.zero Md.zero)).alloc (dcel Ma.zero Md.zero)) ∧ ((w.alloc (dcel Ma.zero Md.zero)).alloc (dcel Ma.zero Md.zero)).heap.size = N + 2) := by
      have a1 := Mf.new (w.alloc (dcel Ma.zero Md.zero)) #[.slice none 0 0, .slice none 0 0, .slice none 0 0, .int .i64 0] 25
      have a2 := Db.new (w.alloc (dcel Ma.zero Md.zero)) Ma.zero Md.zero
      rw [size1, hN] at a1 a2
      subst hN
      exact ⟨⟨(Mf.new w _ _).keep new1, (Db.new w _ _).keep new1⟩, ⟨a1, a2⟩, new1.alloc (by simp) _, by simp⟩
    have HC : Hid (Pc w N (N + 1) (N + 2) A c n l) := Lib.hid ⟨hw, hr, hn, by omega, by omega, by omega⟩
    have HNQ := Lib.hid hN
    clear hw hr hR
    go_enter Tryd.func16, Tryd.ntmps16
    go_wp2
    go_step3
    go_wp2
    go_step3
    go_upto_region 5 with (fail)
    have H1' : Hid ((Mf ((w.alloc (.cells #[.slice none 0 0, .slice none 0 0, .slice none 0 0, .int .i64 0] 25)).alloc (.cells #[.slice none 0 0, .slice none 0 0, .slice none 0 0, .int .i64 0] 25)) N ∧ Db ((w.alloc (.cells #[.slice none 0 0, .slice none 0 0, .slice none 0 0, .int .i64 0] 25)).alloc (.cells #[.slice none 0 0, .slice none 0 0, .slice none 0 0, .int .i64 0] 25)) N Ma.zero Md.zero) ∧ (Mf ((w.alloc (.cells #[.slice none 0 0, .slice none 0 0, .slice none 0 0, .int .i64 0] 25)).alloc (.cells #[.slice none 0 0, .slice none 0 0, .slice none 0 0, .int .i64 0] 25)) (N + 1) ∧ Db ((w.alloc (.cells #[.slice none 0 0, .slice none 0 0, .slice none 0 0, .int .i64 0] 25)).alloc (.cells #[.slice none 0 0, .slice none 0 0, .slice none 0 0, .int .i64 0] 25)) (N + 1) Ma.zero Md.zero) ∧ Below w.heap.size w ((w.alloc (.cells #[.slice none 0 0, .slice none 0 0, .slice none 0 0, .int .i64 0] 25)).alloc (.cells #[.slice none 0 0, .slice none 0 0, .slice none 0 0, .int .i64 0] 25)) ∧ ((w.alloc (.cells #[.slice none 0 0, .slice none 0 0, .slice none 0 0, .int .i64 0] 25)).alloc (.cells #[.slice none 0 0, .slice none 0 0, .slice none 0 0, .int .i64 0] 25)).heap.size = N + 2) := H1
    clear H1
    generalize (w.alloc (.cells #[.slice none 0 0, .slice none 0 0, .slice none 0 0, .int .i64 0] 25)).alloc (.cells #[.slice none 0 0, .slice none 0 0, .slice none 0 0, .int .i64 0] 25) = w2 at *
    clear hN
    go_wp2_with fail
    refine (parts8_v (w0 := w) (N := N) (M := N + 1) (l := l) H1'.out.2.2.1 H1'.out.1 H1'.out.2.1 ⟨by rw [HNQ.out]; exact Nat.le_refl _, by omega, by rw [H1'.out.2.2.2]; omega⟩ (N + 2) H1'.out.2.2.2).mono ?_
    rintro r w3 ⟨rfl, hp3⟩
    have HP3 := Lib.hid hp3
    clear hp3 H1'
    generalize hB : N + 2 = B at *
    generalize hM : N + 1 = M at *
    clear hB hM
    go_wp2_with fail
    go_loopw [5, 17] (fun f i wr => ∃ (j : Nat) (p k t : Int) (y : Ma) (d : Md), j ≤ 6 ∧ i = .int .i64 j ∧ f = .int .i64 0 ∧ Hid (Pq w wr N M B A c n l p k t y d) ∧ Hid (Jp l j p k d)) (fun _ i _ => 6 - (intOf i).toNat)
    case atStart => exact ⟨0, 0, 0, 0, Ma.zero, Md.zero, by omega, rfl, rfl, HP3, HJ⟩
    case round =>
      obtain ⟨j, p, k, t, y, d, hj, rfl, rfl, HP, HJr⟩ := hrel
      clear HJ HP3
      have HJ := HJr
      clear HJr
      have hj8 : j = 0 ∨ j = 1 ∨ j = 2 ∨ j = 3 ∨ j = 4 ∨ j = 5 ∨ j = 6 := by omega
      rcases hj8 with hj0 | hj0 | hj0 | hj0 | hj0 | hj0 | hj0
      · skip
        subst hj0
        obtain ⟨g, q, e, hR⟩ : ∃ g q e, rdP l p = (g, q, e) := ⟨_, _, _, rfl⟩
        obtain ⟨v, hv⟩ : ∃ v, decide ((g.length : Int) ≤ 4) = v := ⟨_, rfl⟩
        have HVV := Lib.hid hv
        have HRD := Lib.hid hR
        have HK := Lib.hid (part1_v HP.out HC.out g q e hR v hv)
        clear hR hv
        obtain ⟨f00, f01, f02, f03, f04, f05, f06⟩ := HP.out.2.1.2
        go_wp2_with fail
        refine (HK.out).mono ?_
        rintro r w4 ⟨rfl, A', c', h4⟩
        have H4 := Lib.hid h4
        clear h4 HK HP
        clear f00 f01 f02 f03 f04 f05 f06
        by_cases he : e = 0
        · subst he
          cases v with
          | false =>
            have HN : Hid (R = (Md.zero, 80)) := by
              have h := HJ.out
              have hv := of_decide_eq_false HVV.out
              rw [Jp, HRR.out, HRD.out, qPg] at h
              dsimp only at h
              rw [if_pos rfl, if_pos (by omega)] at h
              exact h
            have HE := Lib.hid H4.out.bad
            obtain ⟨-, ⟨⟨⟨m0, mf⟩, ⟨m1, z0, z1, z2, z3⟩⟩, -⟩, -⟩ := H4.out
            have mf0 := mf 0
            have mf1 := mf 1
            have mf2 := mf 2
            have mf3 := mf 3
            clear mf H4 HJ HVV HRD
            go_wp2_with fail
            rw [Exit.noGoto_ret]
            obtain rfl := HN.out
            obtain ⟨b1, b2, b3, b4⟩ := HE.out
            exact mparse_end _ _ N Ma.zero Md.zero 80 rfl rfl b1 _ ⟨Ma.zero, rfl, b2, b3, b4⟩
          | true =>
            have HJ2 : Hid (Jp l 1 q k { d with g := g }) := by
              have h := HJ.out
              have hv := of_decide_eq_true HVV.out
              rw [Jp, HRD.out, qPg] at h
              dsimp only at h
              rw [if_pos rfl, if_neg (by omega)] at h
              exact h
            clear HJ HVV HRD
            go_wp2_with fail
            go_roundw
            case rel => exact ⟨1, q, k, t, _, _, by omega, rfl, rfl, H4, HJ2⟩
            case measure => simp [intOf]
        · have hne : (e != 0) = true := by simpa using he
          have HN : Hid (R = (Md.zero, e)) := by
            have h := HJ.out
            rw [Jp, HRR.out, HRD.out, qPg, if_neg he] at h
            exact h
          have HE := Lib.hid H4.out.bad
          obtain ⟨-, ⟨⟨⟨m0, mf⟩, ⟨m1, z0, z1, z2, z3⟩⟩, -⟩, -⟩ := H4.out
          have mf0 := mf 0
          have mf1 := mf 1
          have mf2 := mf 2
          have mf3 := mf 3
          clear mf H4 HJ HVV HRD
          go_wp2_with fail
          rw [Exit.noGoto_ret]
          obtain rfl := HN.out
          obtain ⟨b1, b2, b3, b4⟩ := HE.out
          exact mparse_end _ _ N Ma.zero Md.zero e rfl rfl b1 _ ⟨Ma.zero, rfl, b2, b3, b4⟩
      · skip
        subst hj0
        obtain ⟨g, q, e, hR⟩ : ∃ g q e, rdP l p = (g, q, e) := ⟨_, _, _, rfl⟩
        have HRD := Lib.hid hR
        have HK := Lib.hid (part2_v HP.out HC.out g q e hR)
        clear hR
        obtain ⟨f00, f01, f02, f03, f04, f05, f06⟩ := HP.out.2.1.2
        go_wp2_with fail
        refine (HK.out).mono ?_
        rintro r w4 ⟨rfl, A', c', h4⟩
        have H4 := Lib.hid h4
        clear h4 HK HP
        clear f00 f01 f02 f03 f04 f05 f06
        by_cases he : e = 0
        · subst he
          have HJ2 : Hid (Jp l 2 q k { d with p := g }) := by
            have h := HJ.out
            rw [Jp, HRD.out, qPm, if_pos rfl] at h
            exact h
          clear HJ HRD
          go_wp2_with fail
          go_roundw
          case rel => exact ⟨2, q, k, t, _, _, by omega, rfl, rfl, H4, HJ2⟩
          case measure => simp [intOf]
        · have hne : (e != 0) = true := by simpa using he
          have HN : Hid (R = (Md.zero, e)) := by
            have h := HJ.out
            rw [Jp, HRR.out, HRD.out, qPm, if_neg he] at h
            exact h
          have HE := Lib.hid H4.out.bad
          obtain ⟨-, ⟨⟨⟨m0, mf⟩, ⟨m1, z0, z1, z2, z3⟩⟩, -⟩, -⟩ := H4.out
          have mf0 := mf 0
          have mf1 := mf 1
          have mf2 := mf 2
          have mf3 := mf 3
          clear mf H4 HJ HRD
          go_wp2_with fail
          rw [Exit.noGoto_ret]
          obtain rfl := HN.out
          obtain ⟨b1, b2, b3, b4⟩ := HE.out
          exact mparse_end _ _ N Ma.zero Md.zero e rfl rfl b1 _ ⟨Ma.zero, rfl, b2, b3, b4⟩
      · skip
        subst hj0
        obtain ⟨u, hu⟩ : ∃ u, getV l p 1 = u := ⟨_, rfl⟩
        obtain ⟨q, hq⟩ : ∃ q, getN l p 1 = q := ⟨_, rfl⟩
        obtain ⟨e, hE⟩ : ∃ e, getE l p 1 = e := ⟨_, rfl⟩
        have hb8 := one8 HBY.out p
        rw [hu, hq] at hb8
        have HB8 := Lib.hid hb8
        clear hb8
        obtain ⟨v, hv⟩ : ∃ v, decide (u ≤ 16) = v := ⟨_, rfl⟩
        have HVV := Lib.hid hv
        have HK := Lib.hid (part3_v HP.out HC.out u q e hu hq hE v hv)
        have HU := Lib.hid (And.intro hu (And.intro hq hE))
        clear hu hq hE hv
        obtain ⟨f00, f01, f02, f03, f04, f05, f06⟩ := HP.out.2.1.2
        go_wp2_with fail
        refine (HK.out).mono ?_
        rintro r w4 ⟨rfl, h4⟩
        have H4 := Lib.hid h4
        clear h4 HK HP
        clear f00 f01 f02 f03 f04 f05 f06
        by_cases he : e = 0
        · subst he
          cases v with
          | false =>
            have HN : Hid (R = (Md.zero, 80)) := by
              have h := HJ.out
              have hv := of_decide_eq_false HVV.out
              rw [Jp, HRR.out, HU.out.2.2, if_pos rfl, HU.out.1, if_pos (by omega)] at h
              exact h
            have HE := Lib.hid H4.out.bad
            obtain ⟨-, ⟨⟨⟨m0, mf⟩, ⟨m1, z0, z1, z2, z3⟩⟩, -⟩, -⟩ := H4.out
            have mf0 := mf 0
            have mf1 := mf 1
            have mf2 := mf 2
            have mf3 := mf 3
            clear mf H4 HJ HVV HU HB8
            go_wp2_with fail
            rw [Exit.noGoto_ret]
            obtain rfl := HN.out
            obtain ⟨b1, b2, b3, b4⟩ := HE.out
            exact mparse_end _ _ N Ma.zero Md.zero 80 rfl rfl b1 _ ⟨Ma.zero, rfl, b2, b3, b4⟩
          | true =>
            have HJ2 : Hid (Jp l 3 q u d) := by
              have h := HJ.out
              have hv := of_decide_eq_true HVV.out
              rw [Jp, HU.out.2.2, if_pos rfl, HU.out.1, HU.out.2.1, if_neg (by omega)] at h
              exact ⟨⟨HB8.out.1.1, hv⟩, h⟩
            clear HJ HVV HU HB8
            go_wp2_with fail
            go_roundw
            case rel => exact ⟨3, q, u, t, y, d, by omega, rfl, rfl, H4, HJ2⟩
            case measure => simp [intOf]
        · have hne : (e != 0) = true := by simpa using he
          have HN : Hid (R = (Md.zero, e)) := by
            have h := HJ.out
            rw [Jp, HRR.out, HU.out.2.2, if_neg he] at h
            exact h
          have HE := Lib.hid H4.out.bad
          obtain ⟨-, ⟨⟨⟨m0, mf⟩, ⟨m1, z0, z1, z2, z3⟩⟩, -⟩, -⟩ := H4.out
          have mf0 := mf 0
          have mf1 := mf 1
          have mf2 := mf 2
          have mf3 := mf 3
          clear mf H4 HJ HVV HU HB8
          go_wp2_with fail
          rw [Exit.noGoto_ret]
          obtain rfl := HN.out
          obtain ⟨b1, b2, b3, b4⟩ := HE.out
          exact mparse_end _ _ N Ma.zero Md.zero e rfl rfl b1 _ ⟨Ma.zero, rfl, b2, b3, b4⟩
      · skip
        subst hj0
        obtain ⟨kn, hkn⟩ : ∃ kn : Nat, k = kn := ⟨k.toNat, by have := HJ.out.1.1; omega⟩
        subst hkn
        obtain ⟨s, q, e, hR⟩ : ∃ s q e, qms l kn p = (s, q, e) := ⟨_, _, _, rfl⟩
        have HRD := Lib.hid hR
        have HK := Lib.hid (part4_v HP.out HC.out (by have := HJ.out.1.2; omega) s q e hR)
        clear hR
        obtain ⟨f00, f01, f02, f03, f04, f05, f06⟩ := HP.out.2.1.2
        go_wp2_with fail
        refine (HK.out).mono ?_
        rintro r w4 ⟨rfl, A', c', Z, h4⟩
        have H4 := Lib.hid h4
        clear h4 HK HP
        clear f00 f01 f02 f03 f04 f05 f06
        by_cases he : e = 0
        · subst he
          have HJ2 : Hid (Jp l 4 q kn { d with s := s }) := by
            have h := HJ.out.2
            have hl := qms_len l kn p (by rw [HRD.out])
            rw [HRD.out] at hl
            dsimp only at hl
            rw [Int.toNat_natCast, HRD.out, qPs, if_pos rfl] at h
            exact ⟨by rw [hl], h⟩
          clear HJ HRD
          go_wp2_with fail
          go_roundw
          case rel => exact ⟨4, q, kn, t, _, _, by omega, rfl, rfl, H4, HJ2⟩
          case measure => simp [intOf]
        · have hne : (e != 0) = true := by simpa using he
          have HN : Hid (R = (Md.zero, e)) := by
            have h := HJ.out.2
            rw [HRR.out, Int.toNat_natCast, HRD.out, qPs, if_neg he] at h
            exact h
          have HE := Lib.hid H4.out.bad
          obtain ⟨-, ⟨⟨⟨m0, mf⟩, ⟨m1, z0, z1, z2, z3⟩⟩, -⟩, -⟩ := H4.out
          have mf0 := mf 0
          have mf1 := mf 1
          have mf2 := mf 2
          have mf3 := mf 3
          clear mf H4 HJ HRD
          go_wp2_with fail
          rw [Exit.noGoto_ret]
          obtain rfl := HN.out
          obtain ⟨b1, b2, b3, b4⟩ := HE.out
          exact mparse_end _ _ N Ma.zero Md.zero e rfl rfl b1 _ ⟨Ma.zero, rfl, b2, b3, b4⟩
      · skip
        subst hj0
        obtain ⟨u, hu⟩ : ∃ u, getV l p 1 = u := ⟨_, rfl⟩
        obtain ⟨q, hq⟩ : ∃ q, getN l p 1 = q := ⟨_, rfl⟩
        obtain ⟨e, hE⟩ : ∃ e, getE l p 1 = e := ⟨_, rfl⟩
        have hb8 := one8 HBY.out p
        rw [hu, hq] at hb8
        have HB8 := Lib.hid hb8
        clear hb8
        obtain ⟨v, hv⟩ : ∃ v, decide ((if u = 255 then -1 else u) = -1 ∨ 0 ≤ (if u = 255 then -1 else u) ∧ (if u = 255 then -1 else u) < (d.s.length : Int)) = v := ⟨_, rfl⟩
        have HVV := Lib.hid hv
        have HK := Lib.hid (part5_v HP.out HC.out u q e hu hq hE HB8.out.1 v hv)
        have HU := Lib.hid (And.intro hu (And.intro hq hE))
        clear hu hq hE hv
        obtain ⟨f00, f01, f02, f03, f04, f05, f06⟩ := HP.out.2.1.2
        go_wp2_with fail
        refine (HK.out).mono ?_
        rintro r w4 ⟨rfl, h4⟩
        have H4 := Lib.hid h4
        clear h4 HK HP
        clear f00 f01 f02 f03 f04 f05 f06
        by_cases he : e = 0
        · subst he
          cases v with
          | false =>
            have HN : Hid (R = (Md.zero, 80)) := by
              have h := HJ.out.2
              have hk := HJ.out.1
              have hb := HB8.out
              have hv := of_decide_eq_false HVV.out
              rw [HRR.out, qPz, HU.out.2.2, if_pos rfl, HU.out.1, HU.out.2.1, if_pos (by split at hv <;> omega)] at h
              exact h
            have HE := Lib.hid H4.out.bad
            obtain ⟨-, ⟨⟨⟨m0, mf⟩, ⟨m1, z0, z1, z2, z3⟩⟩, -⟩, -⟩ := H4.out
            have mf0 := mf 0
            have mf1 := mf 1
            have mf2 := mf 2
            have mf3 := mf 3
            clear mf H4 HJ HVV HU HB8
            go_wp2_with fail
            rw [Exit.noGoto_ret]
            obtain rfl := HN.out
            obtain ⟨b1, b2, b3, b4⟩ := HE.out
            exact mparse_end _ _ N Ma.zero Md.zero 80 rfl rfl b1 _ ⟨Ma.zero, rfl, b2, b3, b4⟩
          | true =>
            have HJ2 : Hid (Jp l 5 q k { d with i := if u = 255 then -1 else u }) := by
              have h := HJ.out.2
              have hk := HJ.out.1
              have hb := HB8.out
              have hv := of_decide_eq_true HVV.out
              rw [qPz, HU.out.2.2, if_pos rfl, HU.out.1, HU.out.2.1] at h
              refine ⟨hb.2, h.trans ?_⟩
              by_cases hl : q < l.length
              · rw [if_pos (Or.inr hl), if_pos hl]
              · rw [if_neg hl, if_neg (by split at hv <;> omega)]
            clear HJ HVV HU HB8
            go_wp2_with fail
            go_roundw
            case rel => exact ⟨5, q, k, u, y, _, by omega, rfl, rfl, H4, HJ2⟩
            case measure => simp [intOf]
        · have hne : (e != 0) = true := by simpa using he
          have HN : Hid (R = (Md.zero, e)) := by
            have h := HJ.out.2
            rw [HRR.out, qPz, HU.out.2.2, if_neg he] at h
            exact h
          have HE := Lib.hid H4.out.bad
          obtain ⟨-, ⟨⟨⟨m0, mf⟩, ⟨m1, z0, z1, z2, z3⟩⟩, -⟩, -⟩ := H4.out
          have mf0 := mf 0
          have mf1 := mf 1
          have mf2 := mf 2
          have mf3 := mf 3
          clear mf H4 HJ HVV HU HB8
          go_wp2_with fail
          rw [Exit.noGoto_ret]
          obtain rfl := HN.out
          obtain ⟨b1, b2, b3, b4⟩ := HE.out
          exact mparse_end _ _ N Ma.zero Md.zero e rfl rfl b1 _ ⟨Ma.zero, rfl, b2, b3, b4⟩
      · skip
        subst hj0
        obtain ⟨v, hv⟩ : ∃ v, decide (p = (n : Int)) = v := ⟨_, rfl⟩
        have HVV := Lib.hid hv
        have HK := Lib.hid (part6_v HP.out v hv)
        have HLN := Lib.hid hn
        clear hv
        obtain ⟨f00, f01, f02, f03, f04, f05, f06⟩ := HP.out.2.1.2
        go_wp2_with fail
        refine (HK.out).mono ?_
        rintro r w4 ⟨rfl, h4⟩
        have H4 := Lib.hid h4
        clear h4 HK HP
        clear f00 f01 f02 f03 f04 f05 f06
        cases v with
        | false =>
          have HN : Hid (R = (Md.zero, 80)) := by
            obtain ⟨h1, h⟩ := HJ.out
            have hv := of_decide_eq_false HVV.out
            have hn := HLN.out
            rw [HRR.out, if_pos (by omega)] at h
            exact h
          have HE := Lib.hid H4.out.bad
          obtain ⟨-, ⟨⟨⟨m0, mf⟩, ⟨m1, z0, z1, z2, z3⟩⟩, -⟩, -⟩ := H4.out
          have mf0 := mf 0
          have mf1 := mf 1
          have mf2 := mf 2
          have mf3 := mf 3
          clear mf H4 HJ HVV HLN
          go_wp2_with fail
          rw [Exit.noGoto_ret]
          obtain rfl := HN.out
          obtain ⟨b1, b2, b3, b4⟩ := HE.out
          exact mparse_end _ _ N Ma.zero Md.zero 80 rfl rfl b1 _ ⟨Ma.zero, rfl, b2, b3, b4⟩
        | true =>
          have HJ2 : Hid (Jp l 6 p k d) := by
            obtain ⟨h1, h⟩ := HJ.out
            have hv := of_decide_eq_true HVV.out
            have hn := HLN.out
            rw [if_neg (by omega)] at h
            exact h
          clear HJ HVV HLN
          go_wp2_with fail
          go_roundw
          case rel => exact ⟨6, p, k, t, y, d, by omega, rfl, rfl, H4, HJ2⟩
          case measure => simp [intOf]
      · subst hj0
        have HN : Hid (R = (d, 0)) := by
          have h : qP l = (d, 0) := HJ.out
          rw [HRR.out] at h
          exact h
        have HE := Lib.hid HP.out.good
        obtain ⟨-, ⟨⟨⟨m0, mf⟩, ⟨m1, z0, z1, z2, z3⟩⟩, -⟩, ⟨-, ⟨n1, x0, x1, x2, x3⟩⟩, -⟩ := HP.out
        have mf0 := mf 0
        have mf1 := mf 1
        have mf2 := mf 2
        have mf3 := mf 3
        clear mf HP HJ
        go_wp2_with fail
        try rw [Exit.noGoto_ret]
        obtain rfl := HN.out
        obtain ⟨b1, b2, b3, b4⟩ := HE.out
        exact mparse_end _ _ N y d 0 rfl rfl b1 _ ⟨y, rfl, b2, b3, b4⟩
end Go.Proofs.YteimpkjpoijhmaaDoor
