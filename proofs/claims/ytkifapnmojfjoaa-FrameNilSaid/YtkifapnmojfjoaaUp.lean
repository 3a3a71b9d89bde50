/-
  Layer 16: the program's frame as data; Get, Size, Place, Go, Top.
-/
import Derived.Test.YtkifapnmojfjoaaUo
namespace Go.Proofs.Ytkifapnmojfjoaa
open Go.RowKit Go.Maps
set_option maxRecDepth 100000
set_option linter.unusedSimpArgs false
set_option linter.unusedVariables false

theorem ownm_fr16 {w w' : World} {Y : Nat → Prop} {M n : Nat} {D : DataW Unit} (h : w.ownsMap Try.prog 3 (plainElem Try.prog 3) M n D) (hf : Fr11 Y w w') (hx : ¬ Y M) : w'.ownsMap Try.prog 3 (plainElem Try.prog 3) M n D := by
  obtain ⟨es, clock, hb, r⟩ := h
  exact ⟨es, clock, (hf.block _ (Array.getElem?_eq_some_iff.1 hb).1 hx).trans hb, r⟩
/-- What the map of turns says. -/
def Td16 (D : DataW Unit) (t : Int → Int) : Prop := ∀ y, -9223372036854775808 ≤ y → y ≤ 9223372036854775807 → D.atKey (.int .i64 y) (.lit (.int .i64 0)) = .lit (.int .i64 (t y))
/-- The program's frame at block B. -/
structure Pq16 (w : World) (B : Nat) (f : Fm) (A : Option Addr) (c M : Nat) (L : List Vlu) (D : DataW Unit) : Prop where
  box : w.heap[B]? = some (.cells (pc16 (.pointer (some ⟨B, 0, none⟩)) L f.l.length (.slice A f.s.length c) f.p M) 47 (0, 0))
  ll : L.length = 16
  le : f.l.length ≤ 16
  pre : L.take f.l.length = f.l
  rs : w.ownsRow 0 33 3 (.slice A f.s.length c) f.s.length (cev f.s)
  mp : w.ownsMap Try.prog 3 (plainElem Try.prog 3) M f.q D
  md : Td16 D f.t
  ok : ∀ x ∈ f.l ++ f.s, VlOk x
  many : n16 f ≤ 256
  tb : ∀ y, 0 ≤ f.t y ∧ f.t y ≤ 9223372036854775807
/-- It lies in the blocks of X. -/
def Pf16 (X : Nat → Prop) (w : World) (B : Nat) (f : Fm) : Prop := ∃ A c M L D, Pq16 w B f A c M L D ∧ X B ∧ X M ∧ (∀ a, A = some a → X a.block) ∧ ∀ j, X j → j < w.heap.size
theorem cell_of_box16 {w : World} {B i t : Nat} {cs : Array Value} {u : Value} (h : w.heap[B]? = some (.cells cs t (0, 0))) (hu : cs[i]? = some u) : w.cell? ⟨B, i, none⟩ = some u := by
  simp [World.cell?, h, hu]
section
variable {w w' : World} {B : Nat} {f : Fm} {A : Option Addr} {c M : Nat} {L : List Vlu} {D : DataW Unit} {X Y : Nat → Prop}
theorem Pq16.fr (h : Pq16 w B f A c M L D) (hf : Fr11 Y w w') (h0 : ¬ Y B) (h1 : ¬ Y M) (h2 : ∀ a, A = some a → ¬ Y a.block) : Pq16 w' B f A c M L D :=
  ⟨(hf.block _ (Array.getElem?_eq_some_iff.1 h.box).1 h0).trans h.box, h.ll, h.le, h.pre, own_fr16 h.rs hf h2, ownm_fr16 h.mp hf h1, h.md, h.ok, h.many, h.tb⟩
theorem Pf16.fr (h : Pf16 X w B f) (hf : Fr11 Y w w') (hx : ∀ j, X j → ¬ Y j) : Pf16 X w' B f := by
  obtain ⟨A, c, M, L, D, h, h0, h1, h2, h3⟩ := h
  exact ⟨A, c, M, L, D, h.fr hf (hx _ h0) (hx _ h1) (fun a ha => hx _ (h2 a ha)), h0, h1, h2, fun j hj => Nat.lt_of_lt_of_le (h3 j hj) hf.size⟩
theorem Pf16.keep (h : Pf16 X w B f) (hb : Below w.heap.size w w') : Pf16 X w' B f := h.fr (nb16 hb) fun _ _ => id
theorem Pq16.c0 (h : Pq16 w B f A c M L D) : w.cell? ⟨B, 0, none⟩ = some (.pointer (some ⟨B, 0, none⟩)) ∧ w.cell? ⟨B, 49, none⟩ = some (.int .i64 f.l.length) ∧ w.cell? ⟨B, 50, none⟩ = some (.slice A f.s.length c) ∧ w.cell? ⟨B, 51, none⟩ = some (.int .i64 f.p) ∧ w.cell? ⟨B, 52, none⟩ = some (.map (some M)) :=
  ⟨cell_of_box16 h.box pc16_s, cell_of_box16 h.box (pc16_e (j := 0) h.ll), cell_of_box16 h.box (pc16_e (j := 1) h.ll), cell_of_box16 h.box (pc16_e (j := 2) h.ll), cell_of_box16 h.box (pc16_e (j := 3) h.ll)⟩
theorem Pq16.fz (h : Pq16 w B f A c M L D) (i : Nat) : w.frozen? ⟨B, i, none⟩ = false := frozen_of_row w B i _ _ h.box
theorem Pq16.at_ (h : Pq16 w B f A c M L D) {k : Nat} (hk : k < f.l.length) : f.l[k]? = some (gV16 f k) ∧ L[k]? = some (gV16 f k) := by
  have e1 : f.l[k]? = some (gV16 f k) := by
    rw [gV16, if_pos (by simp only [gB16, Bool.and_eq_true, decide_eq_true_eq]; omega), Int.toNat_natCast, List.getElem?_eq_getElem hk]; rfl
  refine ⟨e1, ?_⟩
  rw [← e1]
  conv => rhs; rw [← h.pre]
  rw [List.getElem?_take_of_lt hk]
theorem Pq16.cl (h : Pq16 w B f A c M L D) {k : Nat} (hk : k < f.l.length) : w.cell? ⟨B, 1 + k * 3, none⟩ = some (.int .u8 (gV16 f k).1) ∧ w.cell? ⟨B, 1 + k * 3 + 1, none⟩ = some (.int .i64 (gV16 f k).2.1) ∧ w.cell? ⟨B, 1 + k * 3 + 2, none⟩ = some (.int .i64 (gV16 f k).2.2) := by
  obtain ⟨h0, h1, h2⟩ := pc16_l (s := .pointer (some ⟨B, 0, none⟩)) (S := .slice A f.s.length c) (n := f.l.length) (p := f.p) (M := M) (h.at_ hk).2
  exact ⟨cell_of_box16 h.box h0, cell_of_box16 h.box h1, cell_of_box16 h.box h2⟩
theorem Pq16.Bs (h : Pq16 w B f A c M L D) {a : Addr} (ha : A = some a) : B ≠ a.block := by
  intro e
  subst e
  obtain ⟨cur, hc⟩ := own_ty16 h.rs ha
  have := h.box.symm.trans hc
  simp at this
theorem Pq16.BM (h : Pq16 w B f A c M L D) : B ≠ M := by
  intro e
  obtain ⟨es, clock, hb, -⟩ := h.mp
  rw [← e] at hb
  have := h.box.symm.trans hb
  simp at this
theorem Pq16.sM (h : Pq16 w B f A c M L D) {a : Addr} (ha : A = some a) : a.block ≠ M := by
  intro e
  obtain ⟨es, clock, hb, -⟩ := h.mp
  obtain ⟨cur, hc⟩ := own_ty16 h.rs ha
  rw [e] at hc
  have := hc.symm.trans hb
  simp at this
end
theorem pget_v (X : Nat → Prop) (B : Nat) (f : Fm) (i : Int) (w : World) (h : Pf16 X w B f) :
    Calls Try.prog 17 #[.pointer (some ⟨B, 0, none⟩), .int .i64 i] w fun e w' => e = .returned (.tuple #[va16 (gV16 f i), .bool (gB16 f i)]) ∧ Below w.heap.size w w' := by
  have H0 := Lib.hid h
  obtain ⟨A, c, M, L, D, h, -⟩ := h
  have HW := Lib.hid (H0.out.keep ((Below.refl w.heap.size w).alloc (Nat.le_refl _) (.cells #[.int .u8 0, .int .i64 0, .int .i64 0] 33)))
  have hl0 : B < w.heap.size := (Array.getElem?_eq_some_iff.1 h.box).1
  have H := Lib.hid (h.fr (nb16 ((Below.refl w.heap.size w).alloc (Nat.le_refl _) (.cells #[.int .u8 0, .int .i64 0, .int .i64 0] 33))) id id fun _ _ => id)
  clear h
  obtain ⟨b0, b1, -⟩ := H.out.c0
  cases hg : gB16 f i with
  | true =>
    have HG := Lib.hid hg
    have hb := hg
    simp only [gB16, Bool.and_eq_true, decide_eq_true_eq] at hb
    obtain ⟨h1, h2⟩ := hb
    obtain ⟨k, rfl⟩ : ∃ k : Nat, i = (k : Int) := ⟨i.toNat, by omega⟩
    obtain ⟨a0, a1, a2⟩ := H.out.cl (k := k) (by omega)
    obtain ⟨⟨x0, x1, x2⟩, hx2⟩ : ∃ x, gV16 f k = x := ⟨_, rfl⟩
    have HX := Lib.hid hx2
    rw [hx2] at a0 a1 a2
    dsimp only at a0 a1 a2
    have HL := Lib.hid (plocal_yes B k f.l.length _ b0 b1 (by omega) H.out.le)
    clear hg hx2 b0 b1 h1 h2
    go_enter Try.func17, Try.ntmps17
    go_wp2_with fail
    refine HL.out.mono ?_
    rintro e w1 ⟨rfl, rfl⟩
    go_wp2_with fail
    refine bodyPost_ret (v := .tuple #[.agg #[.int .u8 x0, .int .i64 x1, .int .i64 x2], .bool true]) (by simp [results, Try.results17, go_sem]) rfl ?_
    rw [HX.out]
    exact ⟨rfl, (Below.refl _ _).alloc (Nat.le_refl _) _⟩
  | false =>
    have HG := Lib.hid hg
    have HX : Hid (gV16 f i = z16) := by rw [Hid, gV16, if_neg (by rw [hg]; decide)]
    simp only [gB16, Bool.and_eq_false_iff, decide_eq_false_iff_not] at hg
    have HL := Lib.hid (plocal_no B f.l.length i _ b0 b1 (by omega))
    clear hg b0 b1
    go_enter Try.func17, Try.ntmps17
    go_wp2_with fail
    refine HL.out.mono ?_
    rintro e w1 ⟨rfl, rfl⟩
    go_wp2_with fail
    refine bodyPost_ret (v := .tuple #[va16 z16, .bool false]) (by simp [results, Try.results17, go_sem, va16, z16]) rfl ?_
    rw [HX.out]
    exact ⟨rfl, (Below.refl _ _).alloc (Nat.le_refl _) _⟩
theorem psize_v (X : Nat → Prop) (B : Nat) (f : Fm) (w : World) (h : Pf16 X w B f) :
    Calls Try.prog 10 #[.pointer (some ⟨B, 0, none⟩)] w fun e w' => e = .returned (.int .i64 (n16 f : Int)) ∧ Below w.heap.size w w' := by
  obtain ⟨A, c, M, L, D, h, -⟩ := h
  obtain ⟨b0, b1, b2, -⟩ := h.c0
  have hm := h.many
  obtain ⟨n, hn⟩ : ∃ n, f.l.length = n := ⟨_, rfl⟩
  obtain ⟨m, hs⟩ : ∃ m, f.s.length = m := ⟨_, rfl⟩
  rw [hn] at b1
  rw [hs] at b2
  have HN : Hid (n16 f = n + m) := Lib.hid (by rw [n16, hn, hs])
  have hn9 : n + m ≤ 256 := by rw [← hn, ← hs]; exact hm
  have HM := Lib.hid (pmade_v B w b0)
  have hl0 : B < w.heap.size := cell_lt b0
  clear h hn hm hs b0
  go_enter Try.func10, Try.ntmps10
  go_wp2_with fail
  refine HM.out.mono ?_
  rintro e w1 ⟨rfl, rfl⟩
  go_upto_region 3 with (fail)
  go_quiet (fail)
  go_wp2_with fail
  go_ret
  rw [HN.out]
  exact ⟨rfl, below_draws (Below.refl _ _) _⟩
theorem pplace_v (X : Nat → Prop) (B : Nat) (f : Fm) (w : World) (h : Pf16 X w B f) :
    Calls Try.prog 12 #[.pointer (some ⟨B, 0, none⟩)] w fun e w' => e = .returned (.int .i64 f.p) ∧ Below w.heap.size w w' := by
  obtain ⟨A, c, M, L, D, h, -⟩ := h
  obtain ⟨b0, -, -, b3, -⟩ := h.c0
  have HM := Lib.hid (pmade_v B w b0)
  have hl0 : B < w.heap.size := cell_lt b0
  clear h b0
  go_enter Try.func12, Try.ntmps12
  go_wp2_with fail
  refine HM.out.mono ?_
  rintro e w1 ⟨rfl, rfl⟩
  go_wp2_with fail
  go_ret
  exact ⟨rfl, Below.refl _ _⟩
theorem ptop_v (X : Nat → Prop) (B : Nat) (f : Fm) (w : World) (h : Pf16 X w B f) :
    Calls Try.prog 13 #[.pointer (some ⟨B, 0, none⟩)] w fun e w' => e = .returned (.tuple #[va16 (tV16 f), .bool (tB16 f)]) ∧ Below w.heap.size w w' := by
  have H0 := Lib.hid h
  obtain ⟨A, c, M, L, D, h, -⟩ := h
  have hl0 : B < w.heap.size := (Array.getElem?_eq_some_iff.1 h.box).1
  have H := Lib.hid (h.fr (nb16 ((Below.refl w.heap.size w).alloc (Nat.le_refl _) (.cells #[.int .u8 0, .int .i64 0, .int .i64 0] 33))) id id fun _ _ => id)
  clear h
  have hm := H.out.many
  obtain ⟨b0, -, b1, -⟩ := H.out.c0
  have HM := Lib.hid (pmade_v B _ b0)
  obtain ⟨n, hn⟩ : ∃ n, f.s.length = n := ⟨_, rfl⟩
  rw [hn] at b1
  have hn9 : n ≤ 256 := by unfold n16 at hm; omega
  have HN := Lib.hid hn
  clear hn hm b0
  cases hg : tB16 f with
  | true =>
    have HG := Lib.hid hg
    have hx := tV16_at hg
    rw [HN.out] at hx
    have hb := hg
    rw [tB16, decide_eq_true_eq, HN.out] at hb
    have hrs := H.out.rs
    rw [HN.out] at hrs
    obtain ⟨g, hA, ⟨a0, a1, a2⟩, -⟩ := val16 hrs hx
    subst hA
    obtain ⟨⟨x0, x1, x2⟩, hx2⟩ : ∃ x, tV16 f = x := ⟨_, rfl⟩
    have HX := Lib.hid hx2
    rw [hx2] at a0 a1 a2
    dsimp only at a0 a1 a2
    obtain ⟨k, hk⟩ : ∃ k, n = k + 1 := ⟨n - 1, by omega⟩
    subst hk
    rw [Nat.add_sub_cancel] at a0 a1 a2
    have hl1 := cell_lt a0
    have hwk : IntKind.i64.wrap ((k : Int) + 1 - 1) = k := by rw [IntKind.wrap_i64]; omega
    clear hx hx2 hg hb hrs
    go_enter Try.func13, Try.ntmps13
    go_wp2_with fail
    refine HM.out.mono ?_
    rintro e w1 ⟨rfl, rfl⟩
    go_upto_region 3 with (fail)
    go_region
    go_wp2_with fail
    refine bodyPost_ret (v := .tuple #[.agg #[.int .u8 x0, .int .i64 x1, .int .i64 x2], .bool true]) (by simp [results, Try.results13, go_sem]) rfl ?_
    rw [HX.out]
    exact ⟨rfl, below_draws ((Below.refl _ _).alloc (Nat.le_refl _) _) 1⟩
  | false =>
    have HX := Lib.hid (tV16_no hg)
    have HG := Lib.hid hg
    rw [tB16, decide_eq_false_iff_not, HN.out] at hg
    obtain rfl : n = 0 := by omega
    clear hg
    go_enter Try.func13, Try.ntmps13
    go_wp2_with fail
    refine HM.out.mono ?_
    rintro e w1 ⟨rfl, rfl⟩
    go_wp2_with fail
    refine bodyPost_ret (v := .tuple #[va16 z16, .bool false]) (by simp [results, Try.results13, go_sem, va16, z16]) rfl ?_
    rw [HX.out]
    exact ⟨rfl, (Below.refl _ _).alloc (Nat.le_refl _) _⟩
theorem pgo_v (X : Nat → Prop) (B : Nat) (f : Fm) (p : Int) (w : World) (h : Pf16 X w B f) :
    Calls Try.prog 15 #[.pointer (some ⟨B, 0, none⟩), .int .i64 p] w fun e w' => e = .returned (.tuple #[]) ∧ Up16 Pf16 X w w' B (goF16 f p) := by
  obtain ⟨A, c, M, L, D, h, x0, x1, x2, x3⟩ := h
  have H := Lib.hid h
  have hl0 : B < w.heap.size := (Array.getElem?_eq_some_iff.1 h.box).1
  obtain ⟨b0, -, -, b3, -⟩ := h.c0
  have hz := h.fz 51
  have HM := Lib.hid (pmade_v B w b0)
  have X2 := Lib.hid x2
  have X3 := Lib.hid x3
  clear h b0 x2 x3
  go_enter Try.func15, Try.ntmps15
  go_wp2_with fail
  refine HM.out.mono ?_
  rintro e w1 ⟨rfl, rfl⟩
  go_wp2_with fail
  go_end0
  have hs : Fr11 (fun j => j = B) w1 (w1.setCell ⟨B, 51, none⟩ (.int .i64 p)) := (Fr11.refl (fun j => j = B) w1).set (p := ⟨B, 51, none⟩) (.inr rfl) _
  refine ⟨rfl, X, ⟨A, c, M, L, D, ⟨?_, H.out.ll, H.out.le, H.out.pre, own_fr16 H.out.rs hs (fun a ha e => H.out.Bs ha e.symm), ownm_fr16 H.out.mp hs (fun e => H.out.BM e.symm), H.out.md, H.out.ok, H.out.many, H.out.tb⟩, x0, x1, X2.out, fun j hj => by simpa using X3.out j hj⟩, hs.mono fun j hj => by rw [hj]; exact x0, fun _ => .inl⟩
  rw [heap_setCell_same w1 B 51 _ _ _ H.out.box, pc16_set (j := 2) H.out.ll]
  rfl
end Go.Proofs.Ytkifapnmojfjoaa
