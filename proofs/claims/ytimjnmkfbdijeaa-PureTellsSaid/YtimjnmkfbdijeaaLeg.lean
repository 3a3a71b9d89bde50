/-
  Eu, Ev, Ew: in one text.
-/
import Derived.Test.YtimjnmkfbdijeaaLei
namespace Go.Proofs.Ytimjnmkfbdijeaa
open Go.RowKit Go.Maps
set_option maxRecDepth 100000
set_option linter.unusedSimpArgs false
set_option linter.unusedVariables false

theorem madeN11 (n : Nat) (hn : n ≤ 1000) (w : World) : (Instr.makeSlice 53 (.int .i64 (n : Int)) (.int .i64 (n : Int))).run Try.prog w = .ok (.slice (some ⟨w.heap.size, 0, none⟩) n n) (w.alloc (.cells (List.replicate n (.int .i64 0)).toArray 3)) := by
  have hinfo := Try.infoN
  rw [Option.map_eq_some_iff] at hinfo
  obtain ⟨i, hi, hz⟩ := hinfo
  simp only [Prod.mk.injEq] at hz
  obtain ⟨hz0, hz1, hz2⟩ := hz
  have hr := run_make (P := Try.prog) w 53 3 i (.int .i64 0) Try.underlying53 hi hz0 .i64 .i64 n n (by omega) (Int.le_refl _) (by rw [hz2]; omega) (by omega)
  rw [hr, hz1, Int.toNat_natCast, Nat.mul_one]
  have e : madeCells #[Value.int .i64 0] n = (List.replicate n (Value.int .i64 0)).toArray := by
    rw [← toList_madeCells_one, Array.toArray_toList]
  rw [← e]
  rfl
/-- A row of n numbers, by a function. -/
def rw11 (n : Nat) (f : Nat → Int) : List Int := (List.range n).map f
theorem rw11_len (n : Nat) (f : Nat → Int) : (rw11 n f).length = n := by simp [rw11]
theorem rw11_at {n t : Nat} {f : Nat → Int} (ht : t < n) : (ci9 (rw11 n f))[t]? = some (.int .i64 (f t)) := by
  rw [ci9, List.getElem?_map, rw11, List.getElem?_map, List.getElem?_range ht]
  rfl
theorem rw11_set {n k : Nat} {f f' : Nat → Int} {v : Int} (hv : f' k = v) (hf : ∀ t, t ≠ k → f' t = f t) : (ci9 (rw11 n f)).set k (.int .i64 v) = ci9 (rw11 n f') := by
  apply List.ext_getElem?
  intro j
  by_cases hj : j = k
  · subst hj
    by_cases hjn : j < n
    · rw [List.getElem?_set_self (by rw [ci9, List.length_map, rw11_len]; exact hjn), rw11_at hjn, hv]
    · rw [List.getElem?_eq_none (by rw [List.length_set, ci9, List.length_map, rw11_len]; omega), List.getElem?_eq_none (by rw [ci9, List.length_map, rw11_len]; omega)]
  · rw [List.getElem?_set_ne (fun e => hj e.symm)]
    by_cases hjn : j < n
    · rw [rw11_at hjn, rw11_at hjn, hf j hj]
    · rw [List.getElem?_eq_none (by rw [ci9, List.length_map, rw11_len]; omega), List.getElem?_eq_none (by rw [ci9, List.length_map, rw11_len]; omega)]
theorem rw11_congr {n : Nat} {f f' : Nat → Int} (h : ∀ t, t < n → f t = f' t) : rw11 n f = rw11 n f' := List.map_congr_left fun t ht => h t (List.mem_range.1 ht)
/-- The greatest of some, from 0 on. -/
def mx11 (f : Nat → Nat) (l : List Nat) : Nat := l.foldl (fun m j => max m (f j)) 0
theorem foldl_mx11 (f : Nat → Nat) : ∀ (l : List Nat) (a : Nat), l.foldl (fun m j => max m (f j + 1)) (a + 1) = l.foldl (fun m j => max m (f j)) a + 1
  | [], _ => rfl
  | x :: l, a => by
    rw [List.foldl_cons, List.foldl_cons, show max (a + 1) (f x + 1) = max a (f x) + 1 by omega]
    exact foldl_mx11 f l _
theorem mx11_snoc {f : Nat → Nat} {l : List Nat} {i x : Nat} (h : l[i]? = some x) : mx11 f (l.take (i + 1)) = max (mx11 f (l.take i)) (f x) := by
  rw [mx11, List.take_add_one, h, List.foldl_append, ← mx11]
  rfl
/-- While Deep is reckoned: i of the order are done; of the next one, k, so much is known. -/
def df11 (dp : Nat → Nat) (o : List Nat) (i k m t : Nat) : Int := if (o.take i).contains t then (dp t : Int) else if t = k then (m : Int) else 0
end Go.Proofs.Ytimjnmkfbdijeaa
namespace Go.Proofs.Ytimjnmkfbdijeaa
open Go.RowKit Go.Maps
set_option maxRecDepth 100000
set_option linter.unusedSimpArgs false
set_option linter.unusedVariables false

theorem back11_0 (A : Option Addr) (n c : Nat) (w : World) : Calls Try.prog 53 #[.slice A n c] w fun e w' => e = .returned (.func (.func 62) #[] #[.pointer (some ⟨w.heap.size, 0, none⟩)]) ∧ w' = w.alloc (.cells #[.slice A n c] 53) := by
  have hmf : ∀ (fn : Fn) (first cap : Array Value) (w : World), (Instr.makeFunc fn first cap).run Try.prog w = .ok (.func fn first cap) w := fun _ _ _ _ => rfl
  go_enter Try.func53, Try.ntmps53
  go_wp2_with fail
  go_ret
  exact ⟨rfl, rfl⟩
/-- Marks in block b that hold nothing. -/
def Ms11 (w : World) (b : Nat) (D : DataW Unit) : Prop := w.ownsMap Try.prog 3 (unitElem (H := Unit)) b (size D) D
theorem Ms11.of {w : World} {b n : Nat} {D : DataW Unit} (h : w.ownsMap Try.prog 3 (unitElem (H := Unit)) b n D) : Ms11 w b D := by
  obtain ⟨es, clock, hb, F, hs, rfl⟩ := h
  exact ⟨es, clock, hb, F, by rw [Maps.size, length_sorted]; simp, rfl⟩
set_option maxHeartbeats 4000000 in
theorem mark11_v (A : Option Addr) (c m n B M : Nat) (L : List Nat) (D : DataW Unit) (p : Nat → Bool) (w : World) (hr : Rn w A c (ns11 L)) (hm : L.length = m) (hL : ∀ t ∈ L, t < n) (hn : n ≤ 1000) (hB : Boxed w B 96 (.map (some M))) (hM : Ms11 w M D) (hf : Mf11 D n p) (hne : B ≠ M)
    (hA : ∀ ad, A = some ad → 0 < m → ad.block ≠ M) :
    Calls Try.prog 52 #[.slice A m c, .pointer (some ⟨B, 0, none⟩)] w fun e w' => e = .returned (.tuple #[]) ∧ ∃ D', Ms11 w' M D' ∧ Mf11 D' n (fun t => p t || L.contains t) ∧ Fr11 (fun j => j = M) w w' := by
  have HR := Lib.hid hr
  have HM := Lib.hid hm
  have HL := Lib.hid hL
  have HB := Lib.hid hB
  have HMs := Lib.hid hM
  have HMf := Lib.hid hf
  have HAM := Lib.hid hA
  have hm9 : m ≤ 9223372036854775807 := by have := hr.1; have := hr.2.1; rw [ns11, List.length_map] at *; unfold maxLen at *; omega
  clear hr hm hL hB hM hf hA
  go_enter Try.func52, Try.ntmps52
  go_wp2_with fail
  go_loopw [7] (fun iv wr => ∃ (i : Nat) (D : DataW Unit), i ≤ m ∧ iv = .int .i64 i ∧ Hid (Ms11 wr M D) ∧ Hid (Mf11 D n fun t => p t || (L.take i).contains t) ∧ Hid (Fr11 (fun j => j = M) w wr)) (fun iv _ => m - (intOf iv).toNat)
  case atStart => exact ⟨0, D, by omega, rfl, HMs, Lib.hid (by simpa using HMf.out), Lib.hid (Fr11.refl _ _)⟩
  case round =>
    clear HMs HMf
    obtain ⟨i, D, hi, rfl, HMs, HMf, HF⟩ := hrel
    rename World => wr
    by_cases h1 : i < m
    · obtain ⟨t, ht⟩ : ∃ t, L[i]? = some t := ⟨_, List.getElem?_eq_getElem (by rw [HM.out]; exact h1)⟩
      have htn : t < n := HL.out t (List.mem_of_getElem? ht)
      have hrw : Rn wr A c (ns11 L) := HF.out.rn HR.out (fun ad ha h0 => HAM.out ad ha (by omega))
      obtain ⟨ad, hA, y0⟩ := hrw.at_ (ns11_at ht)
      subst hA
      have hbx := HF.out.box HB.out hne
      have b0 := hbx.cell
      have HSZ : Hid (size D ≤ n) := Lib.hid (by
        rw [HMf.out.size, cp11]
        have := List.length_filter_le (fun t => p t || (L.take i).contains t) (List.range n)
        rwa [List.length_range] at this)
      have HT := Lib.hid ht
      have HMf2 : Hid (Mf11 (D.put (kl11 t) (.agg [])) n fun j => p j || (L.take (i + 1)).contains j) := Lib.hid (HMf.out.put htn _ (by
        simp only [Bool.or_eq_true, List.contains_iff_mem]
        exact .inr ((take_mem11 ht).2 (.inr rfl))) fun j hj => by
        have : (L.take (i + 1)).contains j = (L.take i).contains j := by
          rw [Bool.eq_iff_iff, List.contains_iff_mem, List.contains_iff_mem, take_mem11 ht]
          exact ⟨fun h => h.resolve_right hj, .inl⟩
        rw [this])
      clear hrw ht hbx
      go_wp2_with (at_mapUpdate; refine wpList_mapUpdate_own _ rfl _ _ _ 96 rfl 3 97 law11 Try.underlying96 _ M (size D) D rfl HMs.out (by have := HSZ.out; unfold maxLen; omega) _ _ (kl11 t) rfl rfl (key11 (by omega)) (.agg []) [] unitElem_mk ?_)
      intro w2 hown2 hgrow2
      have HMs2 := Lib.hid (Ms11.of hown2)
      have HF2 : Hid (Fr11 (fun j => j = M) w w2) := Lib.hid (HF.out.trans (Fr11.of_grown (X := fun j => j = M) hgrow2 (fun j e => by injection e)) fun _ _ h => h)
      clear hown2 hgrow2 b0 y0 HMs HF
      go_wp2_with fail
      go_roundw
      case rel => exact ⟨i + 1, _, by omega, by go_num, HMs2, HMf2, HF2⟩
      case measure => simp [intOf]; omega
    · obtain rfl : m = i := by omega
      have HMf2 : Hid (Mf11 D n fun t => p t || L.contains t) := Lib.hid (by
        have := HMf.out
        rwa [List.take_of_length_le (by rw [HM.out]; exact Nat.le_refl _)] at this)
      go_wp2_with fail
      go_end0
      exact ⟨rfl, D, HMs.out, HMf2.out, HF.out⟩
set_option maxHeartbeats 4000000 in
theorem back11_in (I : Nat → World → Prop) (J : World → Prop) (K : List Int) (B : Nat) (A : Option Addr) (c m r n : Nat) (hm : K.length = m) (hm9 : m ≤ 1000000)
    (hI : ∀ i W, I i W → Boxed W B 53 (.slice A m c) ∧ Rn W A c K)
    (hY : ∀ (i : Nat) (x : Int) (W : World), K[i]? = some x → I (i + 1) W → YieldAt Fence.wide n Try.prog r #[.int .i64 i, .int .i64 x] W fun e W' => (e = .returned (.bool true) ∧ I i W') ∨ (e = .returned (.bool false) ∧ J W'))
    (W0 : World) (h0 : I m W0) :
    CallsIn Fence.wide (n + 1) Try.prog 62 #[.func (.yield r) #[] #[], .pointer (some ⟨B, 0, none⟩)] W0 fun e W' => (∃ v, e = .returned v) ∧ (I 0 W' ∨ J W') := by
  have hb := (hI _ _ h0).1
  have hcell := hb.cell
  have hfr := hb.frozen
  have hlt := hb.lt
  have HY := Lib.hid hY
  have HI := Lib.hid hI
  have H0 := Lib.hid h0
  have HM := Lib.hid hm
  clear hY hI h0 hb hm
  refine callsIn_of_wp Try.func62 rfl trivial ?_ rfl
  simp only [Try.ntmps62, List.size_toArray, List.length_cons, List.length_nil, Nat.reduceAdd, Nat.reduceSub, Array.replicate_succ, Array.replicate_zero, List.push_toArray, List.append_toArray, List.nil_append, List.cons_append]
  have hw : wrap64 ((m : Int) - 1) = m - 1 := by unfold wrap64; omega
  gi_wp2
  gi_loopw [3] (fun v wr => ∃ (i : Nat) (z : Int), i ≤ m ∧ z = (i : Int) - 1 ∧ v = .int .i64 z ∧ Hid (I i wr)) (fun v _ => (intOf v + 1).toNat)
  case atStart => exact ⟨m, _, Nat.le_refl _, rfl, by simp [hw], H0⟩
  case round =>
    obtain ⟨i, z, hi, hz, rfl, HI2⟩ := hrel
    clear hcell hfr hlt H0 hw
    by_cases h0 : i = 0
    · subst h0
      have hneg : z < 0 := by omega
      clear hz
      gi_wp2
      go_end0
      exact ⟨⟨_, rfl⟩, .inl HI2.out⟩
    · obtain ⟨j, rfl⟩ : ∃ j, i = j + 1 := ⟨i - 1, by omega⟩
      obtain rfl : z = (j : Int) := by omega
      obtain ⟨hb, hrd⟩ := HI.out _ _ HI2.out
      have hcell := hb.cell
      have hfr := hb.frozen
      have hjm : j < m := by omega
      have hjk : j < K.length := by rw [HM.out]; exact hjm
      have hx : K[j]? = some K[j] := List.getElem?_eq_getElem hjk
      obtain ⟨ad, hA, y0⟩ := hrd.at_ hx
      subst hA
      generalize K[j] = x at hx y0
      obtain ⟨fn, tmps, assign, body, hy, hR3⟩ := HY.out j x wr hx HI2.out
      have HR3 := Lib.hid hR3
      have hlc := hrd.1
      have hw : wrap64 ((j : Int) - 1) = j - 1 := by unfold wrap64; omega
      clear hR3 hb hrd hx hz h0 hlc hjk
      gi_wp2
      refine HR3.out.mono ?_
      rintro e W3 (⟨rfl, hI3⟩ | ⟨rfl, hJ⟩)
      · have HI3 := Lib.hid hI3
        clear hI3 hcell hfr y0
        gi_wp2
        go_roundw
        case rel => exact ⟨j, _, by omega, rfl, by simp [hw], HI3⟩
        case measure => simp [intOf, hw]
      · have HJ := Lib.hid hJ
        clear hJ hcell hfr y0
        gi_wp2
        refine bodyPost_ret (results_none rfl _ _ _) rfl ?_
        exact ⟨⟨_, rfl⟩, .inr HJ.out⟩
end Go.Proofs.Ytimjnmkfbdijeaa
namespace Go.Proofs.Ytimjnmkfbdijeaa
open Go.RowKit Go.Maps
set_option maxRecDepth 100000
set_option linter.unusedSimpArgs false
set_option linter.unusedVariables false

theorem le_last11 {e : Nat → Nat → Bool} {n k t : Nat} (h : Le11 e n k t) : e k t = true ∨ ∃ s, s < n ∧ Le11 e n k s ∧ e s t = true := by
  induction h with
  | one _ _ h => exact .inl h
  | @more k i j h1 h2 h3 _ ih =>
    rcases ih with h | ⟨s, hs, hl, h⟩
    · exact .inr ⟨i, h2, .one h1 h2 h3, h⟩
    · exact .inr ⟨s, hs, .more h1 h2 h3 hl, h⟩
/-- Who is marked when the order's places from i on are done. -/
def mk11 (e : Nat → Nat → Bool) (lk : Nat → Bool) (k : Nat) (o : List Nat) (i t : Nat) : Bool := (o.take i).contains t && (e k t || (o.drop i).any fun s => lk s && e s t)
structure Lk11 (e : Nat → Nat → Bool) (n k : Nat) (lk : Nat → Bool) (o : List Nat) : Prop where
  ok : Ok11 e n o
  len : o.length = n
  kn : k < n
  lk : ∀ t, t < n → (lk t = true ↔ Le11 e n k t)
section
variable {e : Nat → Nat → Bool} {n k i t u : Nat} {lk : Nat → Bool} {o : List Nat}
theorem nodup_at11 (h : o.Nodup) {i j : Nat} (hi : o[i]? = some t) (hj : o[j]? = some t) : i = j := by
  have h1 := List.getElem?_eq_some_iff.1 hi
  have h2 := List.getElem?_eq_some_iff.1 hj
  obtain ⟨l1, e1⟩ := h1
  obtain ⟨l2, e2⟩ := h2
  rcases Nat.lt_trichotomy i j with h3 | h3 | h3
  · exact absurd (e1.trans e2.symm) (List.pairwise_iff_getElem.1 h i j l1 l2 h3)
  · exact h3
  · exact absurd (e2.trans e1.symm) (List.pairwise_iff_getElem.1 h j i l2 l1 h3)
theorem mem_take11 {l : List Nat} : u ∈ l.take i ↔ ∃ q, q < i ∧ l[q]? = some u := by
  constructor
  · intro h
    obtain ⟨q, hq⟩ := List.getElem?_of_mem h
    have hq1 := (List.getElem?_eq_some_iff.1 hq).1
    rw [List.length_take] at hq1
    exact ⟨q, by omega, by rwa [List.getElem?_take_of_lt (by omega)] at hq⟩
  · rintro ⟨q, hq, h⟩
    exact List.mem_of_getElem? (i := q) (by rw [List.getElem?_take_of_lt hq]; exact h)
theorem mem_drop11 {l : List Nat} : u ∈ l.drop i ↔ ∃ q, i ≤ q ∧ l[q]? = some u := by
  constructor
  · intro h
    obtain ⟨q, hq⟩ := List.getElem?_of_mem h
    rw [List.getElem?_drop] at hq
    exact ⟨i + q, by omega, hq⟩
  · rintro ⟨q, hq, h⟩
    exact List.mem_of_getElem? (i := q - i) (by rw [List.getElem?_drop, show i + (q - i) = q by omega]; exact h)
theorem mk11_iff : mk11 e lk k o i u = true ↔ u ∈ o.take i ∧ (e k u = true ∨ ∃ s ∈ o.drop i, lk s = true ∧ e s u = true) := by
  rw [mk11, Bool.and_eq_true, List.contains_iff_mem, Bool.or_eq_true, List.any_eq_true]
  simp only [Bool.and_eq_true]
theorem Lk11.ltn (h : Lk11 e n k lk o) (hu : o[i]? = some u) : u < n := h.ok.lt u (List.mem_of_getElem? hu)
theorem Lk11.at_ (h : Lk11 e n k lk o) (ht : o[i]? = some t) : mk11 e lk k o (i + 1) t = lk t := by
  have htn := h.ltn ht
  rw [Bool.eq_iff_iff, mk11_iff, h.lk t htn]
  constructor
  · rintro ⟨_, h1 | ⟨s, hs, h1, h2⟩⟩
    · exact .one h.kn htn h1
    · obtain ⟨q, hq, hs⟩ := mem_drop11.1 hs
      have hsn := h.ltn hs
      exact ((h.lk s hsn).1 h1).trans (.one hsn htn h2)
  · intro hl
    refine ⟨mem_take11.2 ⟨i, by omega, ht⟩, ?_⟩
    rcases le_last11 hl with h1 | ⟨s, hs, h1, h2⟩
    · exact .inl h1
    · refine .inr ⟨s, ?_, (h.lk s hs).2 h1, h2⟩
      obtain ⟨q, hq⟩ := List.getElem?_of_mem (all11 h.ok.nd h.ok.lt h.len s hs)
      obtain ⟨m, hm, hmt⟩ := h.ok.be q s hq t htn h2
      have := nodup_at11 h.ok.nd hmt ht
      exact mem_drop11.2 ⟨q, by omega, hq⟩
theorem Lk11.not_take (h : Lk11 e n k lk o) (ht : o[i]? = some t) : t ∉ o.take i := by
  intro hm
  obtain ⟨q, hq, hqt⟩ := mem_take11.1 hm
  have := nodup_at11 h.ok.nd hqt ht
  omega
theorem drop_cons11 {l : List Nat} (ht : l[i]? = some t) : l.drop i = t :: l.drop (i + 1) := by
  obtain ⟨hl, e⟩ := List.getElem?_eq_some_iff.1 ht
  rw [List.drop_eq_getElem_cons hl, e]
theorem Lk11.skip (h : Lk11 e n k lk o) (ht : o[i]? = some t) (hl : lk t = false) : mk11 e lk k o i u = mk11 e lk k o (i + 1) u := by
  by_cases hu : u = t
  · subst hu
    rw [h.at_ ht, hl, ← Bool.not_eq_true, mk11_iff]
    exact fun hh => h.not_take ht hh.1
  · rw [Bool.eq_iff_iff, mk11_iff, mk11_iff, take_mem11 ht, drop_cons11 ht]
    simp only [List.mem_cons, exists_eq_or_imp, hl]
    constructor
    · rintro ⟨h1, h2⟩
      refine ⟨.inl h1, ?_⟩
      rcases h2 with h2 | ⟨h2, _⟩ | h2
      · exact .inl h2
      · cases h2
      · exact .inr h2
    · rintro ⟨h1, h2⟩
      refine ⟨h1.resolve_right hu, ?_⟩
      rcases h2 with h2 | h2
      · exact .inl h2
      · exact .inr (.inr h2)
theorem Lk11.step (h : Lk11 e n k lk o) (ht : o[i]? = some t) (hl : lk t = true) : mk11 e lk k o i u = ((mk11 e lk k o (i + 1) u && !(u == t)) || ((List.range n).filter (e t)).contains u) := by
  have htn := h.ltn ht
  rw [Bool.eq_iff_iff, mk11_iff, Bool.or_eq_true, Bool.and_eq_true, mk11_iff, take_mem11 ht, drop_cons11 ht, List.contains_iff_mem, List.mem_filter, List.mem_range]
  simp only [List.mem_cons, exists_eq_or_imp, hl, true_and, Bool.not_eq_true', beq_eq_false_iff_ne]
  constructor
  · rintro ⟨h1, h2⟩
    have hut : u ≠ t := fun e => h.not_take ht (e ▸ h1)
    rcases h2 with h2 | h2 | h2
    · exact .inl ⟨⟨.inl h1, .inl h2⟩, hut⟩
    · obtain ⟨q, _, hq⟩ := mem_take11.1 h1
      exact .inr ⟨h.ltn hq, h2⟩
    · exact .inl ⟨⟨.inl h1, .inr h2⟩, hut⟩
  · rintro (⟨⟨h1, h2⟩, h3⟩ | ⟨h1, h2⟩)
    · refine ⟨h1.resolve_right h3, ?_⟩
      rcases h2 with h2 | h2
      · exact .inl h2
      · exact .inr (.inr h2)
    · obtain ⟨m, hm, hmu⟩ := h.ok.be i t ht u h1 h2
      exact ⟨mem_take11.2 ⟨m, hm, hmu⟩, .inr (.inl h2)⟩
theorem Lk11.start (h : Lk11 e n k lk o) : mk11 e lk k o n u = ((List.range n).filter (e k)).contains u := by
  rw [Bool.eq_iff_iff, mk11_iff, List.take_of_length_le (by rw [h.len]; exact Nat.le_refl _), List.drop_of_length_le (by rw [h.len]; exact Nat.le_refl _), List.contains_iff_mem, List.mem_filter, List.mem_range]
  constructor
  · rintro ⟨h1, h2 | ⟨s, hs, _⟩⟩
    · exact ⟨h.ok.lt u h1, h2⟩
    · cases hs
  · rintro ⟨h1, h2⟩
    exact ⟨all11 h.ok.nd h.ok.lt h.len u h1, .inl h2⟩
/-- Where none is marked, none of those ahead is led to. -/
theorem Lk11.none (h : Lk11 e n k lk o) (hm : ∀ u, mk11 e lk k o i u = false) : ∀ (j q t : Nat), i ≤ q + j → q < i → o[q]? = some t → lk t = false := by
  intro j
  induction j with
  | zero => intro q t h1 h2; omega
  | succ j ih =>
    intro q t h1 h2 ht
    cases hl : lk t with
    | false => rfl
    | true =>
      have htn := h.ltn ht
      have hmt := hm t
      rw [← Bool.not_eq_true, mk11_iff] at hmt
      exfalso
      apply hmt
      refine ⟨mem_take11.2 ⟨q, h2, ht⟩, ?_⟩
      rcases le_last11 ((h.lk t htn).1 hl) with h3 | ⟨s, hs, h3, h4⟩
      · exact .inl h3
      · refine .inr ⟨s, ?_, (h.lk s hs).2 h3, h4⟩
        obtain ⟨z, hz⟩ := List.getElem?_of_mem (all11 h.ok.nd h.ok.lt h.len s hs)
        obtain ⟨m, hm2, hmt2⟩ := h.ok.be z s hz t htn h4
        have hmq := nodup_at11 h.ok.nd hmt2 ht
        by_cases hzi : i ≤ z
        · exact mem_drop11.2 ⟨z, hzi, hz⟩
        · have := ih z s (by omega) (by omega) hz
          rw [(h.lk s hs).2 h3] at this
          cases this
/-- The list so far. -/
def Ks11 (lk : Nat → Bool) (o : List Nat) (i : Nat) (K : List Int) : Prop := K.Nodup ∧ ∀ x, x ∈ K ↔ ∃ t ∈ o.drop i, lk t = true ∧ x = (t : Int)
theorem Ks11.skip {K : List Int} (hk : Ks11 lk o (i + 1) K) (ht : o[i]? = some t) (hl : lk t = false) : Ks11 lk o i K := by
  refine ⟨hk.1, fun x => ?_⟩
  rw [hk.2, drop_cons11 ht]
  simp only [List.mem_cons, exists_eq_or_imp, hl]
  constructor
  · intro h; exact .inr h
  · rintro (⟨h, _⟩ | h)
    · cases h
    · exact h
theorem Ks11.step {K : List Int} (h : Lk11 e n k lk o) (hk : Ks11 lk o (i + 1) K) (ht : o[i]? = some t) (hl : lk t = true) : Ks11 lk o i (K ++ [(t : Int)]) := by
  refine ⟨?_, fun x => ?_⟩
  · rw [List.nodup_append]
    refine ⟨hk.1, by simp, fun a ha b hb e => ?_⟩
    rw [List.mem_singleton] at hb
    obtain ⟨s, hs, _, e2⟩ := (hk.2 a).1 ha
    obtain ⟨q, hq, hqs⟩ := mem_drop11.1 hs
    have : s = t := by omega
    subst this
    have := nodup_at11 h.ok.nd hqs ht
    omega
  · rw [List.mem_append, hk.2, drop_cons11 ht, List.mem_singleton]
    simp only [List.mem_cons, exists_eq_or_imp, hl, true_and]
    exact ⟨fun h => h.elim .inr .inl, fun h => h.elim .inr .inl⟩
theorem Ks11.len {K : List Int} (h : Lk11 e n k lk o) (hk : Ks11 lk o i K) : K.length ≤ n := by
  have := nd_le11 (k := ns11 (List.range n)) hk.1 fun x hx => by
    obtain ⟨t, ht, _, rfl⟩ := (hk.2 x).1 hx
    obtain ⟨q, _, hq⟩ := mem_drop11.1 ht
    rw [ns11, List.mem_map]
    exact ⟨t, List.mem_range.2 (h.ltn hq), rfl⟩
  rwa [ns11, List.length_map, List.length_range] at this
theorem Ks11.fin {K : List Int} (h : Lk11 e n k lk o) (hk : Ks11 lk o i K) (hn : ∀ q t, q < i → o[q]? = some t → lk t = false) : (K.mergeSort fun x y => decide (x ≤ y)) = ns11 ((List.range n).filter lk) := by
  refine sort_once11 hk.1 fun x => ?_
  rw [hk.2]
  constructor
  · rintro ⟨t, ht, hl, rfl⟩
    obtain ⟨q, _, hq⟩ := mem_drop11.1 ht
    exact ⟨t, h.ltn hq, hl, rfl⟩
  · rintro ⟨t, ht, hl, rfl⟩
    obtain ⟨q, hq⟩ := List.getElem?_of_mem (all11 h.ok.nd h.ok.lt h.len t ht)
    refine ⟨t, mem_drop11.2 ⟨q, ?_, hq⟩, hl, rfl⟩
    by_cases hqi : i ≤ q
    · exact hqi
    · have := hn q t (by omega) hq
      rw [this] at hl
      cases hl
end
end Go.Proofs.Ytimjnmkfbdijeaa
