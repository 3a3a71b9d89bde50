/-
  Layer 16: the reference's Begin, Again.
-/
import Derived.Test.YtkifapnmojfjoaaUd
namespace Go.Proofs.Ytkifapnmojfjoaa
open Go.RowKit
set_option maxRecDepth 100000
set_option linter.unusedSimpArgs false
set_option linter.unusedVariables false

theorem Try.infoT16 : (Try.prog.info? 68).map (fun i => (i.zero, i.size, i.bytes)) = some (some (.agg #[.int .i64 0, .int .i64 0]), 2, 16) := by kernel_rfl
/-- append of one loop's turns. -/
theorem wpList_appt16 (w : World) {ops : Array Oper} {rest : List Oper} {o : Oper} {a : Act} {Q : Exit → Act → World → Prop} (hgd : o.guard = none) (s x : Operand)
    (ho : o.op = .call { callee := .builtin .append, args := #[s, x], argTypes := #[38, 38] })
    (base : Nat) (v : Value) (n : Nat) (K0 : List (Int × Int)) (hs : a.eval s = v) (hown : w.ownsRow base 68 2 v n (cet16 K0)) (P : Nat) (y : Int × Int) (hx : a.eval x = .slice (some ⟨P, 0, none⟩) 1 1)
    (h0 : w.cell? ⟨P, 0, none⟩ = some (.int .i64 y.1)) (h1 : w.cell? ⟨P, 1, none⟩ = some (.int .i64 y.2)) (hn : n ≤ 1000000) (hb : base ≤ w.heap.size)
    (h : ∀ A' c' w', w'.ownsRow base 68 2 (.slice A' (n + 1) c') (n + 1) (cet16 (K0 ++ [y])) → Below base w w' → wpList Try.prog ops Q rest (a.put o.dst (.slice A' (n + 1) c')) w') : wpList Try.prog ops Q (o :: rest) a w := by
  have hinfo := Try.infoT16
  rw [Option.map_eq_some_iff] at hinfo
  obtain ⟨i, hi, hz⟩ := hinfo
  simp only [Prod.mk.injEq] at hz
  obtain ⟨hz0, hz1, hz2⟩ := hz
  obtain ⟨v', w', hr', h2, h3, -, -⟩ := run_append_own_at (P := Try.prog) w base 38 o.type 68 i _ 2 16 Try.underlying38 hi hz0 hz1 hz2 rfl (by decide) v n (cet16 K0) hown ⟨P, 0, none⟩ 1 1 [.int .i64 y.1, .int .i64 y.2] rfl (fun j u hj => by
    match j, hj with
    | 0, hj =>
      simp at hj
      subst hj
      simpa [Addr.add] using h0
    | 1, hj =>
      simp at hj
      subst hj
      simpa [Addr.add] using h1) (fun u hu => by simp at hu; rcases hu with rfl | rfl <;> rfl) (by unfold maxLen; omega) (by omega) hb
  obtain ⟨A', c', rfl⟩ := own_form h2
  refine wpList_plain hgd fun K hK => ?_
  unfold Oper.wp
  simp [execOp, ho, resolve, invoke, builtin, hs, hx, hr', Result.andThen]
  refine hK _ _ ?_
  exact h A' c' w' (by rw [cet16_append]; exact h2) ((Below.refl _ _).grown h3 hb fun g hg' => (hown.lt g hg').1)
theorem turn16 {w : World} {T : List (Int × Int)} {n c : Nat} {A : Option Addr} (h : w.ownsRow 0 68 2 (.slice A n c) n (cet16 T)) {i : Nat} {x : Int × Int} (hi : T[i]? = some x) :
    ∃ g, A = some ⟨g, 0, none⟩ ∧ w.cell? ⟨g, i * 2, none⟩ = some (.int .i64 x.1) ∧ w.cell? ⟨g, i * 2 + 1, none⟩ = some (.int .i64 x.2) := by
  have hl := (List.getElem?_eq_some_iff.1 hi).1
  have hn := h.1
  rw [length_cet16] at hn
  rcases h.2 with ⟨_, h0⟩ | ⟨g, cap, cur, hv, _, hh, _⟩
  · omega
  · injection hv with e1
    subst e1
    obtain ⟨h1, h2⟩ := cet16_at hi
    have hz : ∀ j, (⟨g, 0, none⟩ : Addr).add j = ⟨g, j, none⟩ := fun j => by unfold Addr.add; split <;> simp_all
    have k1 := h.cells rfl _ _ h1
    have k2 := h.cells rfl _ _ h2
    rw [hz] at k1 k2
    exact ⟨g, rfl, k1, k2⟩
/-- The others' turns. -/
def fl16 (T : List (Int × Int)) (x : Int) : List (Int × Int) := T.filter fun y => y.1 != x
theorem lk16_fl (T : List (Int × Int)) (x y : Int) : lk16 (fl16 T x) y = if y = x then 0 else lk16 T y := by
  induction T with
  | nil => simp [fl16, lk16]
  | cons z T ih =>
    by_cases h : z.1 = x
    · rw [fl16, List.filter_cons_of_neg (by simp [h]), ← fl16, ih, lk16]
      by_cases hy : y = x
      · rw [if_pos hy, if_pos hy]
      · rw [if_neg hy, if_neg hy, if_neg (by rw [h]; exact fun e => hy e.symm)]
    · rw [fl16, List.filter_cons_of_pos (by simpa using h), ← fl16, lk16, lk16, ih]
      by_cases hy : y = x
      · rw [if_pos hy, if_pos hy, if_neg (by rw [hy]; exact h)]
      · rw [if_neg hy, if_neg hy]
theorem lk16_app (T : List (Int × Int)) (z : Int × Int) (y : Int) : lk16 (T ++ [z]) y = if lk16 T y ≠ 0 ∨ y ∈ T.map (·.1) then lk16 T y else if z.1 = y then z.2 else 0 := by
  induction T with
  | nil => simp [lk16]
  | cons t T ih =>
    rw [List.cons_append, lk16, lk16]
    by_cases h : t.1 = y
    · rw [if_pos h, if_pos h, if_pos (.inr (by rw [List.map_cons, ← h]; exact List.mem_cons_self))]
    · rw [if_neg h, if_neg h, ih]
      have : (y ∈ List.map (·.1) (t :: T)) ↔ y ∈ List.map (·.1) T := by
        rw [List.map_cons, List.mem_cons]
        exact ⟨fun e => e.resolve_left (fun e => h e.symm), .inr⟩
      simp only [this]
/-- The turns behind Begin. -/
def bg16 (T : List (Int × Int)) (x n : Int) : List (Int × Int) := fl16 T x ++ if 0 < n then [(x, n)] else []
theorem fl16_nin (T : List (Int × Int)) (x : Int) : x ∉ (fl16 T x).map (·.1) := by
  intro h
  obtain ⟨z, hz, rfl⟩ := List.mem_map.1 h
  have := (List.mem_filter.1 hz).2
  simp at this
theorem bg16_lk (T : List (Int × Int)) (x n y : Int) : lk16 (bg16 T x n) y = if y = x then (if 0 < n then n else 0) else lk16 T y := by
  rw [bg16]
  by_cases hn : 0 < n
  · rw [if_pos hn, lk16_app, lk16_fl, if_pos hn]
    by_cases hy : y = x
    · subst hy
      rw [if_pos rfl, if_pos rfl, if_neg (fun h => h.elim (fun h => h rfl) (fl16_nin T y)), if_pos rfl]
    · rw [if_neg hy, if_neg hy]
      by_cases hm : lk16 T y ≠ 0 ∨ y ∈ (fl16 T x).map (·.1)
      · rw [if_pos hm]
      · rw [if_neg hm, if_neg (fun e => hy e.symm)]
        have : lk16 T y = 0 := Classical.byContradiction fun h => hm (.inl h)
        exact this.symm
  · rw [if_neg hn, List.append_nil, lk16_fl, if_neg hn]
theorem bg16_nd {T : List (Int × Int)} (x n : Int) (h : (T.map (·.1)).Nodup) : ((bg16 T x n).map (·.1)).Nodup := by
  have hf : ((fl16 T x).map (·.1)).Nodup := by
    rw [List.Nodup, List.pairwise_map] at h ⊢
    exact h.filter _
  rw [bg16]
  by_cases hn : 0 < n
  · rw [if_pos hn, List.map_append, List.nodup_append]
    refine ⟨hf, by simp, fun a ha b hb => ?_⟩
    simp at hb
    subst hb
    exact fun e => fl16_nin T _ (e ▸ ha)
  · rw [if_neg hn, List.append_nil]
    exact hf
theorem bg16_pos {T : List (Int × Int)} (x n : Int) (h : ∀ z ∈ T, 0 < z.2 ∧ z.2 ≤ 9223372036854775807) (hn : n ≤ 9223372036854775807) : ∀ z ∈ bg16 T x n, 0 < z.2 ∧ z.2 ≤ 9223372036854775807 := by
  intro z hz
  rw [bg16] at hz
  rcases List.mem_append.1 hz with hz | hz
  · exact h z (List.mem_filter.1 hz).1
  · split at hz
    · rw [List.mem_singleton] at hz
      subst hz
      exact ⟨by assumption, hn⟩
    · cases hz
theorem bg16_len (T : List (Int × Int)) (x n : Int) : (bg16 T x n).length ≤ T.length + 1 := by
  have := List.length_filter_le (fun y : Int × Int => y.1 != x) T
  rw [bg16, List.length_append, fl16]
  split <;> simp <;> omega
set_option maxHeartbeats 8000000 in
theorem rbegin_v (X : Nat → Prop) (B : Nat) (f : Fm) (x n : Int) (w : World) (h : Rf16 X w B f) (hq : f.q ≤ 100000) (hn : n ≤ 9223372036854775807) :
    Calls Try.prog 29 #[.pointer (some ⟨B, 0, none⟩), .int .i64 x, .int .i64 n] w fun e w' => e = .returned (.tuple #[]) ∧ ∃ X', Rf16 X' w' B (bF16 f x n) ∧ Fr11 X w w' ∧ ∀ j, X' j → X j ∨ w.heap.size ≤ j := by
  obtain ⟨A, A2, A3, c, c2, c3, T, h, x0, x1, x2, x3, x4⟩ := h
  have hl := h.tq
  have H := Lib.hid h
  have X1 := Lib.hid x1
  have X2 := Lib.hid x2
  have X3 := Lib.hid x3
  have X4 := Lib.hid x4
  have b3 := h.c0.2.2.2
  obtain ⟨m, hm⟩ : ∃ m, T.length = m := ⟨_, rfl⟩
  rw [hm] at b3 hl
  have HM := Lib.hid hm
  have hm9 : m ≤ 100000 := by omega
  have HN := Lib.hid hn
  clear h x1 x2 x3 x4 hm hl hq hn
  go_enter Try.func29, Try.ntmps29
  go_wp2_with fail
  have HB3 := Lib.hid b3
  clear b3
  go_loopw [6, 7] (fun sv iv wr => ∃ (i k : Nat) (A' : Option Addr) (c' : Nat), i ≤ m ∧ k ≤ i ∧ iv = .int .i64 i ∧ sv = .slice A' k c' ∧ Hid (wr.ownsRow w.heap.size 68 2 (.slice A' k c') k (cet16 (fl16 (T.take i) x))) ∧ Hid (Below w.heap.size w wr)) (fun _ iv _ => m - (intOf iv).toNat)
  case atStart => exact ⟨0, 0, none, 0, by omega, by omega, rfl, rfl, Lib.hid (World.ownsRow_nil _ _ _ _), Lib.hid (Below.refl _ _)⟩
  case round =>
    obtain ⟨i, k, A', c', hi, hk, rfl, rfl, HO, HB⟩ := hrel
    rename World => wr
    have b3 := (HB.out.cell (cell_lt HB3.out)).trans HB3.out
    by_cases h1 : i < m
    · obtain ⟨y, hy⟩ : ∃ y, T[i]? = some y := ⟨_, List.getElem?_eq_getElem (by rw [HM.out]; exact h1)⟩
      obtain ⟨g, hA, c0, c1⟩ := turn16 H.out.rt hy
      subst hA
      have HY := Lib.hid hy
      have c0 := (HB.out.cell (cell_lt c0)).trans c0
      have c1 := (HB.out.cell (cell_lt c1)).trans c1
      obtain ⟨y0, y1⟩ := y
      dsimp only at c0 c1
      clear hy
      by_cases he : y0 = x
      · subst he
        have HF : Hid (fl16 (T.take (i + 1)) y0 = fl16 (T.take i) y0) := Lib.hid (by rw [fl16, List.take_add_one, HY.out, List.filter_append]; simp [fl16])
        rw [← HF.out] at HO
        go_wp2_with fail
        go_roundw
        case rel => exact ⟨i + 1, k, A', c', by omega, by omega, by go_num, rfl, HO, HB⟩
        case measure => simp [intOf]; omega
      · have hne : (y0 != x) = true := by simpa using he
        have HF : Hid (fl16 (T.take i) x ++ [(y0, y1)] = fl16 (T.take (i + 1)) x) := Lib.hid (by rw [fl16, fl16, List.take_add_one, HY.out, List.filter_append]; simp [hne])
        have HO2 := Lib.hid (own_below HO.out (show Below wr.heap.size wr (wr.alloc (.cells #[.int .i64 y0, .int .i64 y1] 68)) from (Below.refl _ _).alloc (Nat.le_refl _) _) (Nat.le_refl _))
        have HC0 : Hid ((wr.alloc (.cells #[.int .i64 y0, .int .i64 y1] 68)).cell? ⟨wr.heap.size, 0, none⟩ = some (.int .i64 y0)) := Lib.hid (by simp [go_sem])
        have HC1 : Hid ((wr.alloc (.cells #[.int .i64 y0, .int .i64 y1] 68)).cell? ⟨wr.heap.size, 1, none⟩ = some (.int .i64 y1)) := Lib.hid (by simp [go_sem])
        have HBX : Hid (w.heap.size ≤ (wr.alloc (.cells #[.int .i64 y0, .int .i64 y1] 68)).heap.size) := Lib.hid (by have := HB.out.size; simp; omega)
        clear he
        go_wp2_with (refine wpList_appt16 _ rfl (.tmp 27) (.tmp 35) rfl w.heap.size (.slice A' k c') k (fl16 (T.take i) x) rfl HO2.out wr.heap.size (y0, y1) rfl HC0.out HC1.out (by omega) HBX.out ?_; intro A9 c9 w9 ho9 hb9; have HO9 := Lib.hid ho9; have HB9 := Lib.hid hb9; clear ho9 hb9)
        have HBZ : Hid (Below w.heap.size w w9) := Lib.hid ((HB.out.alloc HB.out.size _).trans HB9.out)
        rw [HF.out] at HO9
        go_roundw
        case rel => exact ⟨i + 1, k + 1, A9, c9, by omega, by omega, by go_num, rfl, HO9, HBZ⟩
        case measure => simp [intOf]; omega
    · obtain rfl : i = m := by omega
      rw [List.take_of_length_le (by rw [HM.out]; exact Nat.le_refl _)] at HO
      have HFIN : Hid (∀ (wz : World) (Az : Option Addr) (mz cz : Nat), wz.ownsRow w.heap.size 68 2 (.slice Az mz cz) mz (cet16 (bg16 T x n)) → Below w.heap.size w wz → wz.heap[B]? = some (.cells #[.slice A f.l.length c, .slice A2 f.s.length c2, .int .i64 f.p, .slice A3 T.length c3] 40 (0, 0)) ∧
          ∃ X', Rf16 X' (wz.setCell ⟨B, 3, none⟩ (.slice Az mz cz)) B (bF16 f x n) ∧ Fr11 X w (wz.setCell ⟨B, 3, none⟩ (.slice Az mz cz)) ∧ ∀ j, X' j → X j ∨ w.heap.size ≤ j) := Lib.hid (fun wz Az mz cz ho hb => by
        have hl2 := ho.1
        rw [length_cet16] at hl2
        refine rf16_turns (T' := bg16 T x n) (by omega) (bg16_nd x n H.out.nd) (bg16_pos x n H.out.pos HN.out) (fun y => ?_) ?_ H.out x0 X1.out X2.out X3.out X4.out (Fr11.of_below hb fun j h1 h2 => by omega) (own_base ho (Nat.zero_le _)) ?_
        · rw [bg16_lk, H.out.tt]
        · have := bg16_len T x n
          have := H.out.tq
          omega
        · intro q hq
          rcases ho.2 with ⟨hv, h0⟩ | ⟨g, cap, cur, hv, hg, _⟩
          · rw [hv] at hq
            simp [Value.ownBlock] at hq
          · rw [hv] at hq
            have e : g = q := by simpa [Value.ownBlock] using hq
            exact .inr (by omega))
      by_cases h0 : 0 < n
      · have HE : Hid (fl16 T x ++ [(x, n)] = bg16 T x n) := Lib.hid (by rw [bg16, if_pos h0])
        have HO2 := Lib.hid (own_below HO.out (show Below wr.heap.size wr (wr.alloc (.cells #[.int .i64 x, .int .i64 n] 68)) from (Below.refl _ _).alloc (Nat.le_refl _) _) (Nat.le_refl _))
        have HC0 : Hid ((wr.alloc (.cells #[.int .i64 x, .int .i64 n] 68)).cell? ⟨wr.heap.size, 0, none⟩ = some (.int .i64 x)) := Lib.hid (by simp [go_sem])
        have HC1 : Hid ((wr.alloc (.cells #[.int .i64 x, .int .i64 n] 68)).cell? ⟨wr.heap.size, 1, none⟩ = some (.int .i64 n)) := Lib.hid (by simp [go_sem])
        have HBX : Hid (w.heap.size ≤ (wr.alloc (.cells #[.int .i64 x, .int .i64 n] 68)).heap.size) := Lib.hid (by have := HB.out.size; simp; omega)
        go_wp2_with (refine wpList_appt16 _ rfl (.tmp 39) (.tmp 43) rfl w.heap.size (.slice A' k c') k (fl16 T x) rfl HO2.out wr.heap.size (x, n) rfl HC0.out HC1.out (by omega) HBX.out ?_; intro A9 c9 w9 ho9 hb9; rw [HE.out] at ho9; have HFZ := Lib.hid (HFIN.out w9 A9 (k + 1) c9 ho9 ((HB.out.alloc HB.out.size _).trans hb9)); have hB9 := HFZ.out.1; have b3 : w9.cell? ⟨B, 3, none⟩ = some (.slice A3 i c3) := (by simp [World.cell?, hB9, HM.out]); have hz9 : w9.frozen? ⟨B, 3, none⟩ = false := frozen_of_row w9 B 3 _ _ hB9; clear ho9 hb9 hB9)
        go_end0
        exact ⟨rfl, HFZ.out.2⟩
      · have HE : Hid (bg16 T x n = fl16 T x) := Lib.hid (by rw [bg16, if_neg h0, List.append_nil])
        rw [← HE.out] at HO
        have HFZ := Lib.hid (HFIN.out wr A' k c' HO.out HB.out)
        have hz9 : wr.frozen? ⟨B, 3, none⟩ = false := frozen_of_row wr B 3 _ _ HFZ.out.1
        go_wp2_with fail
        go_end0
        exact ⟨rfl, HFZ.out.2⟩
set_option maxHeartbeats 4000000 in
theorem ragain_v (X : Nat → Prop) (B : Nat) (f : Fm) (x : Int) (w : World) (h : Rf16 X w B f) (hq : f.q ≤ 100000) :
    Calls Try.prog 30 #[.pointer (some ⟨B, 0, none⟩), .int .i64 x] w fun e w' => e = .returned (.tuple #[.bool (aM16 f x), .bool (aB16 f x)]) ∧ ∃ X', Rf16 X' w' B (aF16 f x) ∧ Fr11 X w w' ∧ ∀ j, X' j → X j ∨ w.heap.size ≤ j := by
  have H0 := Lib.hid h
  obtain ⟨A, A2, A3, c, c2, c3, T, h, -⟩ := h
  have hl := h.tq
  have H := Lib.hid h
  have b3 := h.c0.2.2.2
  obtain ⟨m, hm⟩ : ∃ m, T.length = m := ⟨_, rfl⟩
  rw [hm] at b3 hl
  have HM := Lib.hid hm
  have hm9 : m ≤ 100000 := by omega
  have HQ := Lib.hid hq
  clear h hm hl hq
  go_enter Try.func30, Try.ntmps30
  go_wp2_with fail
  go_loopw [6] (fun iv wr => ∃ i : Nat, i ≤ m ∧ iv = .int .i64 i ∧ Hid (lk16 T x = lk16 (T.drop i) x) ∧ wr = w) (fun iv _ => m - (intOf iv).toNat)
  case atStart => exact ⟨0, by omega, rfl, Lib.hid rfl, rfl⟩
  case round =>
    obtain ⟨i, hi, rfl, HL, rfl⟩ := hrel
    by_cases h1 : i < m
    · obtain ⟨y, hy⟩ : ∃ y, T[i]? = some y := ⟨_, List.getElem?_eq_getElem (by rw [HM.out]; exact h1)⟩
      obtain ⟨g, hA, c0, c1⟩ := turn16 H.out.rt hy
      subst hA
      have hd : T.drop i = y :: T.drop (i + 1) := by
        obtain ⟨hlt, rfl⟩ := List.getElem?_eq_some_iff.1 hy
        exact List.drop_eq_getElem_cons hlt
      have hpy := H.out.pos y (List.mem_of_getElem? hy)
      obtain ⟨y0, y1⟩ := y
      dsimp only at c0 c1 hpy
      have HD := Lib.hid hd
      clear hy hd
      by_cases he : y0 = x
      · subst he
        have HT : Hid (f.t y0 = y1) := Lib.hid (by rw [H.out.tt, HL.out, HD.out, lk16, if_pos rfl])
        have HAB : Hid (aB16 f y0 = true) := Lib.hid (by rw [aB16, HT.out, decide_eq_true hpy.1])
        have HAM : Hid (aM16 f y0 = decide (1 < y1)) := Lib.hid (by rw [aM16, HT.out])
        have HAF : Hid (aF16 f y0 = bF16 f y0 (y1 - 1)) := Lib.hid (by rw [aF16, if_pos HAB.out, HT.out])
        have HBG := Lib.hid (rbegin_v X B f y0 (y1 - 1) wr H0.out HQ.out (by omega))
        have hwy : IntKind.i64.wrap (y1 - 1) = y1 - 1 := by rw [IntKind.wrap_i64]; omega
        go_wp2_with fail
        refine HBG.out.mono ?_
        rintro e w2 ⟨rfl, hx⟩
        have HX := Lib.hid hx
        clear hx
        go_wp2_with fail
        go_ret2
        rw [HAM.out, HAB.out, HAF.out]
        exact ⟨rfl, HX.out⟩
      · have hne : (y0 == x) = false := by simpa using he
        have HL2 : Hid (lk16 T x = lk16 (T.drop (i + 1)) x) := Lib.hid (by rw [HL.out, HD.out, lk16, if_neg he])
        clear he
        go_wp2_with fail
        go_roundw
        case rel => exact ⟨i + 1, by omega, by go_num, HL2, trivial⟩
        case measure => simp [intOf]; omega
    · obtain rfl : i = m := by omega
      have HT : Hid (f.t x = 0) := Lib.hid (by rw [H.out.tt, HL.out, List.drop_of_length_le (by rw [HM.out]; exact Nat.le_refl _), lk16])
      have HAB : Hid (aB16 f x = false) := Lib.hid (by rw [aB16, HT.out]; rfl)
      have HAM : Hid (aM16 f x = false) := Lib.hid (by rw [aM16, HT.out]; rfl)
      have HAF : Hid (aF16 f x = f) := Lib.hid (by rw [aF16, if_neg (by rw [HAB.out]; decide)])
      go_wp2_with fail
      go_ret2
      rw [HAM.out, HAB.out, HAF.out]
      exact ⟨rfl, X, H0.out, Fr11.refl _ _, fun _ => .inl⟩
end Go.Proofs.Ytkifapnmojfjoaa
