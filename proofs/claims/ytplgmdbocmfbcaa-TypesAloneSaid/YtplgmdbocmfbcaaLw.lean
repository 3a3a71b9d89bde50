/-
  Fg, Fi: in one text.
-/
import Derived.Test.YtplgmdbocmfbcaaLv
import Derived.Test.YtplgmdbocmfbcaaFw
import Derived.Test.YtplgmdbocmfbcaaSh
import Derived.Laws.CopyOwn
import Derived.Deep.RegionLaw
import Derived.Test.YtplgmdbocmfbcaaLf
import Derived.Sort.OwnSortedInts
import Derived.Lib.RowBridge
namespace Go.Proofs.Ytplgmdbocmfbcaa
open Go.RowKit
set_option maxRecDepth 100000
set_option linter.unusedSimpArgs false
set_option linter.unusedVariables false

/-- Block g holds the integers T, and nothing else. -/
def Tr (w : World) (g : Nat) (T : List Int) : Prop := w.heap[g]? = some (.cells (ci9 T).toArray 3 (0, 0))
section
variable {w w' : World} {g : Nat} {T : List Int}
theorem Tr.lt (h : Tr w g T) : g < w.heap.size := (Array.getElem?_eq_some_iff.1 h).1
theorem Tr.keep (h : Tr w g T) (hb : Below w.heap.size w w') : Tr w' g T := (hb.block g h.lt).trans h
theorem Tr.cell (h : Tr w g T) {i : Nat} {x : Int} (hi : T[i]? = some x) : w.cell? ⟨g, i, none⟩ = some (.int .i64 x) := by
  rw [cell_of_row w g i _ _ (0, 0) h]
  simp [ci9, hi]
theorem Tr.froz (h : Tr w g T) (i : Nat) : w.frozen? ⟨g, i, none⟩ = false := frozen_of_row w g i _ _ h
theorem Tr.put (h : Tr w g T) (j : Nat) (v : Int) : Tr (w.setCell ⟨g, j, none⟩ (.int .i64 v)) g (T.set j v) := by
  unfold Tr
  rw [heap_setCell_same w g j _ _ _ h]
  congr 2
  apply Array.ext'
  simp [ci9, List.map_set]
theorem Tr.other (h : Tr w g T) {p : Addr} (hp : p.block ≠ g) (v : Value) : Tr (w.setCell p v) g T := (Below.heap_setCell w p v g (fun e => hp e.symm)).trans h
theorem Tr.own (h : Tr w g T) {base m : Nat} (hm : T.length = m) (hb : base ≤ g) (hl : m ≤ 1000000) : w.ownsRow base 3 1 (.slice (some ⟨g, 0, none⟩) m m) m (ci9 T) := by
  subst hm
  exact ⟨by simp [ci9], .inr ⟨g, T.length, (ci9 T).toArray, rfl, hb, h, Nat.le_refl _, by unfold maxLen; omega, by simp [ci9], List.take_of_length_le (by simp [ci9])⟩⟩
theorem Tr.of_own {base m : Nat} {A : Option Addr} (h : w.ownsRow base 3 1 (.slice A m m) m (ci9 T)) (hm : 0 < m) : ∃ g, A = some ⟨g, 0, none⟩ ∧ base ≤ g ∧ Tr w g T := by
  rcases h.2 with ⟨hv, h0⟩ | ⟨g, cap, cur, hv, hg, hb, h1, h2, h3, h4⟩
  · omega
  · injection hv with e1 e2 e3
    subst e1 e3
    refine ⟨g, rfl, hg, ?_⟩
    unfold Tr
    rw [hb]
    congr 2
    apply Array.ext'
    rw [← h4, List.take_of_length_le (by simp [h3])]
end
/-- k ones, and zeros up to m. -/
def xo9 (k m : Nat) : List Int := List.replicate k 1 ++ List.replicate (m - k) 0
theorem xo9_at {k m j : Nat} (h : j < k) : (xo9 k m)[j]? = some 1 := by
  rw [xo9, List.getElem?_append_left (by simpa using h)]
  simp [h]
theorem xo9_full (m : Nat) : xo9 m m = List.replicate m 1 := by simp [xo9]
theorem xo9_splice {k m n : Nat} (hk : k + n ≤ m) : splice (ci9 (xo9 k m)) k (List.replicate n (.int .i64 1)) = ci9 (xo9 (k + n) m) := by
  unfold splice ci9 xo9
  rw [List.map_append, List.map_append, List.map_replicate, List.map_replicate, List.map_replicate, List.map_replicate]
  rw [List.take_append_of_le_length (by simp), List.take_of_length_le (by simp), List.length_replicate]
  rw [List.drop_append, List.length_replicate, List.drop_of_length_le (by simp), List.nil_append, List.drop_replicate]
  rw [← List.append_assoc, List.replicate_append_replicate]
  congr 2
  omega
theorem Try.infoI9 : (Try.prog.info? 3).map (fun i => (i.zero, i.size, i.bytes)) = some (some (.int .i64 0), 1, 8) := by kernel_rfl
theorem mcells9 (m : Nat) : (madeCells #[.int .i64 0] m).toList = ci9 (xo9 0 m) := by
  apply List.ext_getElem?
  intro i
  by_cases h : i < m
  · simp [madeCells, ci9, xo9, h, Nat.mod_one]
  · simp [madeCells, ci9, xo9, h]
theorem Try.sizeI9 : (Try.prog.info? 3).map (·.size) = some 1 := by kernel_rfl
/-- copy of ones over what follows. -/
theorem copy9 (w : World) (g k m n B sl sc : Nat) (ad : Addr) (ht : Tr w g (xo9 k m)) (hn : n = Nat.min sl (m - k)) (hk : k ≤ m) (hs : ∀ j, j < n → w.cell? (ad.add j) = some (.int .i64 1)) (hB : B ≤ g) :
    ∃ w4, (Builtin.copy_ #[46, 46] 3 #[.slice (some ⟨g, k, none⟩) (m - k) (m - k), .slice (some ad) sl sc]).run Try.prog w = .ok (.int .i64 n) w4 ∧ Tr w4 g (xo9 (k + n) m) ∧ Below B w w4 := by
  have hnk : k + n ≤ m := by
    have : n ≤ m - k := by rw [hn]; exact Nat.min_le_right _ _
    omega
  have hl : (ci9 (xo9 k m)).length = m := by simp [ci9, xo9]; omega
  have hrun := run_copy_row (P := Try.prog) w 46 46 3 3 g k (m - k) (m - k) ad sl sc (ci9 (xo9 k m)).toArray 3 (List.replicate n (.int .i64 1)) Try.underlying46 Try.sizeI9 ht (by rw [List.length_replicate]; exact hn)
    (fun j v h => by
      rw [List.getElem?_replicate] at h
      split at h
      · injection h with h
        rw [← h]
        exact hs j (by assumption)
      · cases h) (by simp only [List.size_toArray, List.length_replicate]; omega) (fun v hv => by rw [List.eq_of_mem_replicate hv]; rfl)
  refine ⟨_, by rw [hrun, List.length_replicate]; rfl, ?_, below_setRow (Below.refl _ _) hB _⟩
  unfold Tr
  rw [setRow_heap w g _ _ _ _ ht, ← xo9_splice hnk]
  simp [splice]
/-- The loops around a place, of the first ones. -/
theorem lq9_take {out : List Lp} {i p : Nat} {x : Lp} (h : out[i]? = some x) : lq9 (out.take (i + 1)) p = lq9 (out.take i) p ++ (if wi9 x p = true then [x] else []) := by
  rw [List.take_add_one, h, lq9, lq9, List.filter_append]
  simp [List.filter_cons]
theorem tm9_take {out : List Lp} {i p : Nat} {x : Lp} (h : out[i]? = some x) : tm9 (out.take (i + 1)) p = if wi9 x p = true then tm9 (out.take i) p * x.2.2 else tm9 (out.take i) p := by
  rw [tm9, lq9_take h, List.foldl_append]
  split <;> rfl
theorem tmk_bd {l : List Ins} (h : flE9 l = 0) {p : Nat} (hp : p < l.length) (i : Nat) : 1 ≤ tm9 ((lpU9 l l.length).take i) p ∧ tm9 ((lpU9 l l.length).take i) p ≤ 100000000 := by
  have hw := wl9 h
  have hk : ∀ x ∈ lq9 ((lpU9 l l.length).take i) p, 1 ≤ x.2.2 ∧ x.2.2 ≤ 100 := fun x hx => (hw.mem x (List.mem_of_mem_take (mem_lq9.1 hx).1)).2.2.2.2.2.2
  rw [tm9, foldl_mul _ (fun x hx => (hk x hx).1), Int.one_mul]
  obtain ⟨a, b⟩ := pr9_bd (lq9 ((lpU9 l l.length).take i) p) (fun x hx => by
    have := hk x hx
    unfold K9
    omega)
  have hl : (lq9 ((lpU9 l l.length).take i) p).length ≤ 4 := Nat.le_trans (List.Sublist.length_le ((List.take_sublist i _).filter _)) (lq9_four h hp)
  have c : (100 : Nat) ^ (lq9 ((lpU9 l l.length).take i) p).length ≤ 100 ^ 4 := Nat.pow_le_pow_right (by omega) hl
  omega
/-- The times, when the loops ahead of the i-th were taken, and of the i-th the places ahead of a. -/
def tw9 (out : List Lp) (m i a : Nat) : List Int := (List.range m).map fun p => if p < a then tm9 (out.take (i + 1)) p else tm9 (out.take i) p
def tv9 (out : List Lp) (m i : Nat) : List Int := (List.range m).map fun p => tm9 (out.take i) p
theorem tv9_zero (out : List Lp) (m : Nat) : tv9 out m 0 = List.replicate m 1 := by
  apply List.ext_getElem?
  intro j
  by_cases h : j < m
  · simp [tv9, h, tm9, lq9]
  · simp [tv9, h]
theorem tv9_start {out : List Lp} {m i a : Nat} {x : Lp} (h : out[i]? = some x) (ha : a = x.1 + 1) : tv9 out m i = tw9 out m i a := by
  unfold tv9 tw9
  apply List.map_congr_left
  intro p hp
  split
  · rw [tm9_take h, if_neg (by rw [wi9_iff]; omega)]
  · rfl
theorem tw9_end {out : List Lp} {m i a : Nat} {x : Lp} (h : out[i]? = some x) (ha : a = x.2.1 + 1) : tw9 out m i a = tv9 out m (i + 1) := by
  unfold tv9 tw9
  apply List.map_congr_left
  intro p hp
  split
  · rfl
  · rw [tm9_take h, if_neg (by rw [wi9_iff]; omega)]
theorem tw9_at {out : List Lp} {m i a : Nat} (ha : a < m) : (tw9 out m i a)[a]? = some (tm9 (out.take i) a) := by
  simp [tw9, ha]
theorem tw9_step {out : List Lp} {m i a : Nat} (ha : a < m) : (tw9 out m i a).set a (tm9 (out.take (i + 1)) a) = tw9 out m i (a + 1) := by
  apply List.ext_getElem?
  intro j
  rw [List.getElem?_set]
  by_cases hj : a = j
  · subst hj
    simp [tw9, ha]
  · rw [if_neg hj]
    by_cases hjm : j < m
    · simp only [tw9, List.getElem?_map, List.getElem?_range hjm, Option.map_some]
      congr 1
      by_cases h1 : j < a
      · rw [if_pos h1, if_pos (by omega)]
      · rw [if_neg h1, if_neg (by omega)]
    · simp [tw9, hjm]
theorem Cl9.other {w : World} {g : Nat} {xs : List Value} (h : Cl9 w g xs) {q : Addr} (hq : q.block ≠ g) (v : Value) : Cl9 (w.setCell q v) g xs :=
  ⟨by simpa using h.1, fun i u hu => by rw [World.cell?_setCell_other _ _ _ _ (fun e => hq (by rw [e]))]; exact h.2 i u hu⟩
end Go.Proofs.Ytplgmdbocmfbcaa
namespace Go.Proofs.Ytplgmdbocmfbcaa
open Go.RowKit
set_option maxRecDepth 100000
set_option linter.unusedSimpArgs false
set_option linter.unusedVariables false

theorem kfcheck : KFCheck := by
  intro A c m L w hr hm _
  have HLO := Lib.hid (loopsof_v A c m L w hr hm)
  clear hr hm
  generalize flE9 L = E at *
  generalize flL9 L = FL at *
  go_enter Try.func27, Try.ntmps27
  go_wp2_with fail
  refine HLO.out.mono ?_
  rintro r w1 ⟨A1, c1, rfl, ho, hb⟩
  have HB1 := Lib.hid hb
  clear ho hb HLO
  go_wp2_with fail
  go_ret
  exact ⟨rfl, HB1.out⟩
/-! Rows of integers of the call's own: append, Sort, Compact. -/
theorem ci9_one (L : List Int) : ∀ u ∈ ci9 L, u.oneCell' = true := by
  intro u hu
  simp only [ci9, List.mem_map] at hu
  obtain ⟨x, _, rfl⟩ := hu
  rfl
theorem rn_new (w : World) (x : Int) : Rn (w.alloc (.cells #[.int .i64 x] 3)) (some ⟨w.heap.size, 0, none⟩) 1 [x] := Rn.new w [x] 3 (by unfold maxLen; simp)
theorem wpList_append_ni (w : World) {ops : Array Oper} {rest : List Oper} {o : Oper} {a : Act} {Q : Exit → Act → World → Prop} (hgd : o.guard = none) (s x : Operand)
    (ho : o.op = .call { callee := .builtin .append, args := #[s, x], argTypes := #[46, 46] })
    (base : Nat) (v : Value) (n : Nat) (K : List Int) (hs : a.eval s = v) (hown : w.ownsRow base 3 1 v n (ci9 K))
    (A : Option Addr) (m c : Nat) (L : List Int) (hx : a.eval x = .slice A m c) (hr : Rn w A c L) (hm : m = L.length) (hbytes : n + m ≤ 1000000) (hbase : base ≤ w.heap.size)
    (h : ∀ A' c' w', w'.ownsRow base 3 1 (.slice A' (n + m) c') (n + m) (ci9 (K ++ L)) → Below base w w' → wpList Try.prog ops Q rest (a.put o.dst (.slice A' (n + m) c')) w') : wpList Try.prog ops Q (o :: rest) a w := by
  have hinfo := Try.infoI9
  rw [Option.map_eq_some_iff] at hinfo
  obtain ⟨i, hi, hz⟩ := hinfo
  simp only [Prod.mk.injEq] at hz
  obtain ⟨hz0, hz1, hz2⟩ := hz
  have hbel : ∀ {w'}, w.grownBy w' v.ownBlock → Below base w w' := fun hg => (Below.refl _ _).grown hg hbase fun g hg' => (hown.lt g hg').1
  rcases hr.2.2 with ⟨rfl, rfl⟩ | ⟨ad, rfl, hcell⟩
  · have h0 : L = [] := List.eq_nil_of_length_eq_zero (by have := hr.1; omega)
    subst h0
    obtain rfl : m = 0 := hm
    refine wpList_append_own_none hgd s x 46 ho base 3 i 1 Try.underlying46 hi v n (ci9 K) hs hown hx ?_
    obtain ⟨A', c', rfl⟩ := own_form hown
    have := h A' c' w (by simpa using hown) (hbel (World.grownBy.refl w _))
    simpa using this
  · refine wpList_append_own_at w hgd s x 46 ho base 3 i _ 1 8 Try.underlying46 hi hz0 hz1 hz2 rfl (by decide) v n (ci9 K) hs hown ad m c (ci9 L) hx (by simp [ci9, hm])
      (fun j u hj => by
        simp only [ci9, List.getElem?_map, Option.map_eq_some_iff] at hj
        obtain ⟨y, hy, rfl⟩ := hj
        exact hcell j y hy) (ci9_one L) (by unfold maxLen; omega) (by omega) hbase ?_
    intro v' w' hown' hg _ _
    obtain ⟨A', c', rfl⟩ := own_form hown'
    exact h A' c' w' (by rw [ci9, List.map_append]; exact hown') (hbel hg)
theorem sort9_v (A : Option Addr) (n c : Nat) (zs : List Int) (base : Nat) (w : World) (hn : zs.length = n) (ho : w.ownsRow base 3 1 (.slice A n c) n (ci9 zs)) (hb : base ≤ w.heap.size) (hs : n ≤ 1000) :
    Calls Try.prog 30 #[.slice A n c] w fun r w' => r = .returned (.tuple #[]) ∧ w'.ownsRow base 3 1 (.slice A n c) n (ci9 (zs.mergeSort fun x y => decide (x ≤ y))) ∧ Below base w w' := by
  subst hn
  by_cases h0 : zs = []
  · subst h0
    refine (Try.slices_Sort_int_none A c w).mono ?_
    rintro r w' ⟨rfl, rfl⟩
    exact ⟨rfl, by simpa using ho, Below.refl _ _⟩
  · have hpos : 0 < zs.length := List.length_pos_iff.2 h0
    have hlt := fun g => ho.lt g
    rcases ho.2 with ⟨hv, h1⟩ | ⟨g, cap, cur, hv, hg, hh, h1, h2, h3, h4⟩
    · omega
    · injection hv with e1 e2 e3
      subst e1 e3
      rw [Nat.mul_one] at h4
      have hl : (zs.mergeSort fun x y => decide (x ≤ y)).length = zs.length := List.length_mergeSort zs
      refine (Try.slices_Sort_int g 0 c zs w (holds_of_blockI hh h4) (Array.getElem?_eq_some_iff.1 hh).1 (by omega)).mono ?_
      rintro r w' ⟨rfl, q, os, rfl⟩
      refine ⟨rfl, ownsRow_sortedI hl hg hh h1 h2 h3, (Below.refl _ _).grown (grownBy_sortedI _) hb fun k hk => ?_⟩
      injection hk with hk
      omega
theorem compact9_v (A : Option Addr) (n c : Nat) (zs : List Int) (base : Nat) (w : World) (hn : zs.length = n) (ho : w.ownsRow base 3 1 (.slice A n c) n (ci9 zs)) (hb : base ≤ w.heap.size) :
    Calls Try.prog 31 #[.slice A n c] w fun r w' => r = .returned (.slice A (Lib.compact zs).length c) ∧ w'.ownsRow base 3 1 (.slice A (Lib.compact zs).length c) (Lib.compact zs).length (ci9 (Lib.compact zs)) ∧ Below base w w' := by
  subst hn
  by_cases h0 : zs = []
  · subst h0
    refine (Try.slices_Compact_int_empty A c w).mono ?_
    rintro r w' ⟨rfl, rfl⟩
    exact ⟨rfl, ho, Below.refl _ _⟩
  · have hpos : 0 < zs.length := List.length_pos_iff.2 h0
    rcases ho.2 with ⟨hv, h1⟩ | ⟨g, cap, cur, hv, hg, hh, h1, h2, h3, h4⟩
    · omega
    · injection hv with e1 e2 e3
      subst e1 e3
      rw [Nat.mul_one] at h4
      have hle := Lib.compact_length_le zs
      refine (Try.slices_Compact_int g 0 c zs w (holds_of_blockI hh h4) (by unfold maxLen at h2; omega) h1).mono ?_
      rintro r w' ⟨rfl, q, rfl⟩
      obtain ⟨ts, hts⟩ : ∃ ts, Lib.compact zs ++ List.replicate (zs.length - (Lib.compact zs).length) 0 = ts := ⟨_, rfl⟩
      have htl : ts.length = zs.length := by rw [← hts]; simp; omega
      rw [hts]
      have hG : Sort.putRow (Value.int .i64) (Sort.ahead w q) g 0 ts.toArray = Sort.grow (Sort.putRow (Value.int .i64) (Sort.ahead w q) g 0 ts.toArray) #[] := (Go.Sort.grow_empty _).symm
      rw [hG]
      refine ⟨rfl, ⟨by simp [ci9], .inr ⟨g, c, _, rfl, hg, heap_sortedI _ hh, by omega, h2, by simp [Sort.putCells, h3], ?_⟩⟩, (Below.refl _ _).grown (grownBy_sortedI _) hb fun k hk => ?_⟩
      · have h5 := take_putCellsI cur ts (by omega)
        have h6 := congrArg (List.take (Lib.compact zs).length) h5
        rw [List.take_take, htl, Nat.min_eq_left hle, ← List.map_take, ← hts, List.take_append_of_le_length (Nat.le_refl _), List.take_length] at h6
        rw [Nat.mul_one]
        rw [← hts]
        exact h6
      · injection hk with hk
        omega
theorem ms2 (a b : Int) (h : a ≤ b) : [a, b].mergeSort (fun x y => decide (x ≤ y)) = [a, b] := by
  simp [List.mergeSort, List.MergeSort.Internal.splitInTwo, h]
theorem ms3 (a b : Int) (h : ¬ b ≤ a) : [b, a].mergeSort (fun x y => decide (x ≤ y)) = [a, b] := by
  simp [List.mergeSort, List.MergeSort.Internal.splitInTwo, h]
theorem cp1 (a : Int) : Lib.compact [a] = [a] := by simp [Lib.compact, Lib.compactUpTo, Lib.keeps, List.range_succ]
theorem cp2 (a : Int) : Lib.compact [a, a] = [a] := by simp [Lib.compact, Lib.compactUpTo, Lib.keeps, List.range_succ]
theorem cp3 (a b : Int) (h : a < b) : Lib.compact [a, b] = [a, b] := by
  have : ¬ b = a := by omega
  simp [Lib.compact, Lib.compactUpTo, Lib.keeps, List.range_succ, this]
theorem cp0 : Lib.compact ([] : List Int) = [] := by simp [Lib.compact, Lib.compactUpTo]
/-- The ways of an instruction, as the program puts them together. -/
def raw9 (o a : Int) (p : Nat) : List Int := (if opL o = true then [tg9 (o, a, 0)] else []) ++ (if opG o = true then [(p : Int) + 1] else [])
theorem raw9_ways {l : List Ins} (h : flE9 l = 0) {p : Nat} (hp : p < l.length) : Lib.compact ((raw9 (iO9 l p) (iA9 l p) p).mergeSort fun x y => decide (x ≤ y)) = wy9 l p := by
  have hw := wl9 h
  have hall := codM_all (flE9_zero h).1
  obtain ⟨m1, m2, m3⟩ := iO9_mem hp
  have ho : iO9 l p < 33 := by
    have h1 := hall.2.2 _ m1
    unfold inM opM at h1
    rw [← m2] at h1
    simp only [Bool.and_eq_true, decide_eq_true_eq] at h1
    by_cases h2 : iO9 l p < 33
    · exact h2
    · have : opHi (iO9 l p) = -1 := by
        unfold opHi
        repeat rw [if_neg (by omega)]
      have h3 : opLo (iO9 l p) = 0 := by
        unfold opLo
        rw [if_neg (by omega)]
      rw [this, h3] at h1
      omega
  by_cases h26 : iO9 l p = 26
  · have e1 : raw9 26 (iA9 l p) p = [iA9 l p] := by
      rw [raw9, if_pos (by decide), if_neg (by decide)]
      rfl
    rw [wy9, h26, e1, if_neg (by omega), if_pos rfl]
    simp [cp1]
  by_cases h27 : iO9 l p = 27
  · have e1 : raw9 27 (iA9 l p) p = [iA9 l p, (p : Int) + 1] := by
      rw [raw9, if_pos (by decide), if_pos (by decide)]
      rfl
    have hj := hw.jump p hp (.inr h27)
    rw [wy9, h27, e1, if_neg (by omega), if_neg (by omega), if_pos rfl]
    by_cases he : iA9 l p = p + 1
    · rw [if_pos he, he, ms2 _ _ (Int.le_refl _), cp2]
    · rw [if_neg he, ms3 _ _ (by omega), cp3 _ _ (by omega)]
  by_cases h29 : iO9 l p = 29
  · have e1 : raw9 29 (iA9 l p) p = [iA9 l p + 1, (p : Int) + 1] := by
      rw [raw9, if_pos (by decide), if_pos (by decide)]
      rfl
    obtain ⟨x, hx, hxp⟩ := hw.ofA p hp h29
    obtain ⟨q1, q2, -, -, q5, -⟩ := hw.mem x hx
    rw [hxp] at q1 q5
    rw [wy9, h29, e1, if_neg (by omega), if_neg (by omega), if_neg (by omega), if_pos rfl, ms2 _ _ (by omega), cp3 _ _ (by omega)]
  have hL : opL (iO9 l p) = false := by simp [opL, h26, h27, h29]
  by_cases he : iO9 l p = 31 ∨ iO9 l p = 32
  · have hG : opG (iO9 l p) = false := by rcases he with e | e <;> rw [e] <;> decide
    rw [wy9, if_pos he, raw9, hL, hG]
    simp [cp0]
  · have hG : opG (iO9 l p) = true := by
      simp only [opG, opK, Bool.and_eq_true, decide_eq_true_eq, bne_iff_ne, ne_eq]
      omega
    rw [wy9, if_neg he, if_neg h26, if_neg h27, if_neg h29, raw9, hL, hG]
    simp [cp1]
set_option maxHeartbeats 8000000 in
theorem fways_v : KFWays := by
  intro A c m L a w hr hm _
  have HLm := Lib.hid hm
  have HR := Lib.hid hr
  have hml : m ≤ 9223372036854775807 := by have := hr.len; omega
  have HCK := Lib.hid (kfcheck A c m L w hr hm (by assumption))
  clear hr hm
  obtain ⟨E, hE⟩ : ∃ e, flE9 L = e := ⟨_, rfl⟩
  obtain ⟨FW, hFW⟩ : ∃ x, flW9 L a = x := ⟨_, rfl⟩
  have HEF := Lib.hid (show flE9 L = E ∧ flW9 L a = FW from ⟨hE, hFW⟩)
  rw [hE] at HCK
  rw [hFW]
  clear hE hFW
  go_enter Try.func14, Try.ntmps14
  go_wp2_with fail
  refine HCK.out.mono ?_
  rintro r w1 ⟨rfl, hb⟩
  have HB1 := Lib.hid hb
  clear HCK hb
  by_cases h0 : E = 0
  · subst h0
    have hE0 := HEF.out.1
    by_cases ha : a < 0
    · have HF : Hid (FW = ([], 2)) := Lib.hid (by rw [← HEF.out.2, flW9, if_pos hE0, if_pos (.inl ha)])
      clear hE0
      go_wp2_with fail
      go_ret2
      exact ⟨none, 0, by rw [HF.out]; rfl, by rw [HF.out]; exact World.ownsRow_nil _ _ _ _, HB1.out⟩
    by_cases ham : (m : Int) ≤ a
    · have HF : Hid (FW = ([], 2)) := Lib.hid (by rw [← HEF.out.2, flW9, if_pos hE0, if_pos (.inr (by rw [HLm.out]; exact ham))])
      clear hE0
      go_wp2_with fail
      go_ret2
      exact ⟨none, 0, by rw [HF.out]; rfl, by rw [HF.out]; exact World.ownsRow_nil _ _ _ _, HB1.out⟩
    obtain ⟨p, rfl⟩ : ∃ p : Nat, a = p := ⟨a.toNat, by omega⟩
    have hpm : p < m := by omega
    have HF : Hid (FW = (wy9 L p, 0)) := Lib.hid (by rw [← HEF.out.2, flW9, if_pos hE0, if_neg (by rw [HLm.out]; omega), Int.toNat_natCast])
    have hm2 : m ≤ 200 := by have := (codM_all (flE9_zero hE0).1).2.1; rw [HLm.out] at this; exact this
    obtain ⟨⟨o, b, z⟩, hx⟩ : ∃ x, L[p]? = some x := ⟨_, List.getElem?_eq_getElem (by rw [HLm.out]; exact hpm)⟩
    have HWW : Hid (Lib.compact ((raw9 o b p).mergeSort fun x y => decide (x ≤ y)) = wy9 L p) := Lib.hid (by
      have h := raw9_ways hE0 (p := p) (by rw [HLm.out]; exact hpm)
      simpa [iO9, iA9, hx] using h)
    have hb0 : 0 ≤ b ∧ b ≤ 1000000 := by
      have h1 := (codM_all (flE9_zero hE0).1).2.2 _ (List.mem_of_getElem? hx)
      have h2 := opM_bd h1
      simp at h2
      omega
    obtain ⟨ad, hA, k1, k2, k3⟩ := (HR.out.keep HB1.out).cl9 hx
    subst hA
    have HX := Lib.hid hx
    clear hx hE0 ha ham
    go_wp2_with fail
    refine (leads_any o _).mono ?_
    rintro r w2 ⟨rfl, rfl⟩
    cases hL : opL o with
    | false =>
      have HL := Lib.hid hL
      clear hL
      have HO1 : Hid (w1.ownsRow w.heap.size 3 1 (.slice none 0 0) 0 (ci9 [])) := Lib.hid (World.ownsRow_nil _ _ _ _)
      go_wp2_with fail
      refine (goes_any o _).mono ?_
      rintro r w5 ⟨rfl, rfl⟩
      cases hG : opG o with
      | false =>
        have HLG : Hid (opL o = false ∧ opG o = false) := Lib.hid ⟨HL.out, hG⟩
        clear hG
        have HWY : Hid (Lib.compact (([] : List Int).mergeSort fun x y => decide (x ≤ y)) = wy9 L p) := Lib.hid (by rw [← HWW.out]; simp [raw9, HLG.out.1, HLG.out.2])
        go_wp2_with fail
        refine (sort9_v none 0 0 [] w.heap.size w1 rfl HO1.out HB1.out.size (by omega)).mono ?_
        rintro r w7 ⟨rfl, ho, hb⟩
        have HO7 := Lib.hid ho
        have HB7 : Hid (Below w.heap.size w w7) := Lib.hid (HB1.out.trans hb)
        clear ho hb
        go_wp2_with fail
        refine (compact9_v none 0 0 _ w.heap.size w7 (by simp) HO7.out HB7.out.size).mono ?_
        rw [HWY.out]
        rintro r w8 ⟨rfl, ho, hb⟩
        have HO8 := Lib.hid ho
        have HB8 : Hid (Below w.heap.size w w8) := Lib.hid (HB7.out.trans hb)
        clear ho hb
        go_wp2_with fail
        go_ret2
        exact ⟨none, 0, by rw [HF.out]; rfl, by rw [HF.out]; exact HO8.out, HB8.out⟩
      | true =>
        have HLG : Hid (opL o = false ∧ opG o = true) := Lib.hid ⟨HL.out, hG⟩
        clear hG
        go_wp2_with (at_builtin; refine wpList_append_ni _ rfl (.tmp 41) (.tmp 44) rfl w.heap.size _ 0 [] rfl (HO1.out.alloc _) _ 1 1 [((p : Int) + 1)] rfl (rn_new w1 ((p : Int) + 1)) rfl (by omega) (by have := HB1.out.size; simp; omega) ?_)
        rintro A6 c6 w6 ho hb
        have HO6 := Lib.hid ho
        have HB6 : Hid (Below w.heap.size w w6) := Lib.hid (HB1.out.trans ((new1.mono HB1.out.size).trans hb))
        clear ho hb
        have HWY : Hid (Lib.compact ((([] ++ [((p : Int) + 1)]) : List Int).mergeSort fun x y => decide (x ≤ y)) = wy9 L p) := Lib.hid (by rw [← HWW.out]; simp [raw9, HLG.out.1, HLG.out.2])
        go_wp2_with fail
        refine (sort9_v A6 (0 + 1) c6 ([] ++ [((p : Int) + 1)]) w.heap.size w6 rfl HO6.out HB6.out.size (by omega)).mono ?_
        rintro r w7 ⟨rfl, ho, hb⟩
        have HO7 := Lib.hid ho
        have HB7 : Hid (Below w.heap.size w w7) := Lib.hid (HB6.out.trans hb)
        clear ho hb
        go_wp2_with fail
        refine (compact9_v A6 (0 + 1) c6 _ w.heap.size w7 (by simp) HO7.out HB7.out.size).mono ?_
        rw [HWY.out]
        rintro r w8 ⟨rfl, ho, hb⟩
        have HO8 := Lib.hid ho
        have HB8 : Hid (Below w.heap.size w w8) := Lib.hid (HB7.out.trans hb)
        clear ho hb
        go_wp2_with fail
        go_ret2
        exact ⟨A6, c6, by rw [HF.out]; rfl, by rw [HF.out]; exact HO8.out, HB8.out⟩
    | true =>
      have HL := Lib.hid hL
      have htg : tg9 (o, b, 0) = tg9 (o, b, z) := rfl
      clear hL
      go_wp2_with fail
      refine (target_v o b z _ hb0).mono ?_
      rintro r w3 ⟨rfl, hb3⟩
      have HB3 : Hid (Below w.heap.size w w3) := Lib.hid (below_on HB1.out hb3)
      clear hb3 k1 k2 k3
      have HO3 : Hid (w3.ownsRow w.heap.size 3 1 (.slice none 0 0) 0 (ci9 [])) := Lib.hid (World.ownsRow_nil _ _ _ _)
      obtain ⟨tg, htg2⟩ : ∃ t, tg9 (o, b, z) = t := ⟨_, rfl⟩
      rw [htg2] at htg ⊢
      have HWW : Hid (Lib.compact ((raw9 o b p).mergeSort fun x y => decide (x ≤ y)) = wy9 L p ∧ raw9 o b p = [tg] ++ (if opG o = true then [(p : Int) + 1] else [])) := Lib.hid ⟨HWW.out, by rw [raw9, HL.out, htg]; rfl⟩
      have HWW : Hid (Lib.compact (([tg] ++ (if opG o = true then [(p : Int) + 1] else [])).mergeSort fun x y => decide (x ≤ y)) = wy9 L p) := Lib.hid (by rw [← HWW.out.2]; exact HWW.out.1)
      clear htg htg2
      go_wp2_with (at_builtin; refine wpList_append_ni _ rfl (.tmp 27) (.tmp 33) rfl w.heap.size _ 0 [] rfl (HO3.out.alloc _) _ 1 1 [tg] rfl (rn_new w3 tg) rfl (by omega) (by have := HB3.out.size; simp; omega) ?_)
      rintro A4 c4 w4 ho hb
      have HO4 : Hid (w4.ownsRow w.heap.size 3 1 (.slice A4 1 c4) 1 (ci9 [tg])) := Lib.hid ho
      have HB4 : Hid (Below w.heap.size w w4) := Lib.hid (HB3.out.trans ((new1.mono HB3.out.size).trans hb))
      obtain ⟨ad', hA, k1, k2, k3⟩ := (HR.out.keep HB4.out).cl9 HX.out
      injection hA with hA
      subst hA
      clear ho hb k2 k3
      go_wp2_with fail
      refine (goes_any o _).mono ?_
      rintro r w5 ⟨rfl, rfl⟩
      cases hG : opG o with
      | false =>
        have HLG : Hid (opL o = true ∧ opG o = false) := Lib.hid ⟨HL.out, hG⟩
        clear hG
        have HWY : Hid (Lib.compact (([tg] : List Int).mergeSort fun x y => decide (x ≤ y)) = wy9 L p) := Lib.hid (by rw [← HWW.out]; simp [raw9, HLG.out.1, HLG.out.2])
        go_wp2_with fail
        refine (sort9_v A4 1 c4 [tg] w.heap.size w4 rfl HO4.out HB4.out.size (by omega)).mono ?_
        rintro r w7 ⟨rfl, ho, hb⟩
        have HO7 := Lib.hid ho
        have HB7 : Hid (Below w.heap.size w w7) := Lib.hid (HB4.out.trans hb)
        clear ho hb
        go_wp2_with fail
        refine (compact9_v A4 1 c4 _ w.heap.size w7 (by simp) HO7.out HB7.out.size).mono ?_
        rw [HWY.out]
        rintro r w8 ⟨rfl, ho, hb⟩
        have HO8 := Lib.hid ho
        have HB8 : Hid (Below w.heap.size w w8) := Lib.hid (HB7.out.trans hb)
        clear ho hb
        go_wp2_with fail
        go_ret2
        exact ⟨A4, c4, by rw [HF.out]; rfl, by rw [HF.out]; exact HO8.out, HB8.out⟩
      | true =>
        have HLG : Hid (opL o = true ∧ opG o = true) := Lib.hid ⟨HL.out, hG⟩
        clear hG
        go_wp2_with (at_builtin; refine wpList_append_ni _ rfl (.tmp 41) (.tmp 44) rfl w.heap.size _ 1 [tg] rfl (HO4.out.alloc _) _ 1 1 [((p : Int) + 1)] rfl (rn_new w4 ((p : Int) + 1)) rfl (by omega) (by have := HB4.out.size; simp; omega) ?_)
        rintro A6 c6 w6 ho hb
        have HO6 := Lib.hid ho
        have HB6 : Hid (Below w.heap.size w w6) := Lib.hid (HB4.out.trans ((new1.mono HB4.out.size).trans hb))
        clear ho hb
        have HWY : Hid (Lib.compact ((([tg] ++ [((p : Int) + 1)]) : List Int).mergeSort fun x y => decide (x ≤ y)) = wy9 L p) := Lib.hid (by rw [← HWW.out]; simp [raw9, HLG.out.1, HLG.out.2])
        go_wp2_with fail
        refine (sort9_v A6 (1 + 1) c6 ([tg] ++ [((p : Int) + 1)]) w.heap.size w6 rfl HO6.out HB6.out.size (by omega)).mono ?_
        rintro r w7 ⟨rfl, ho, hb⟩
        have HO7 := Lib.hid ho
        have HB7 : Hid (Below w.heap.size w w7) := Lib.hid (HB6.out.trans hb)
        clear ho hb
        go_wp2_with fail
        refine (compact9_v A6 (1 + 1) c6 _ w.heap.size w7 (by simp) HO7.out HB7.out.size).mono ?_
        rw [HWY.out]
        rintro r w8 ⟨rfl, ho, hb⟩
        have HO8 := Lib.hid ho
        have HB8 : Hid (Below w.heap.size w w8) := Lib.hid (HB7.out.trans hb)
        clear ho hb
        go_wp2_with fail
        go_ret2
        exact ⟨A6, c6, by rw [HF.out]; rfl, by rw [HF.out]; exact HO8.out, HB8.out⟩
  · have hne : (E != 0) = true := by simpa using h0
    have HF : Hid (FW = ([], E)) := Lib.hid (by rw [← HEF.out.2, flW9, if_neg (by rw [HEF.out.1]; exact h0), HEF.out.1])
    go_wp2_with fail
    go_ret2
    exact ⟨none, 0, by rw [HF.out]; rfl, by rw [HF.out]; exact World.ownsRow_nil _ _ _ _, HB1.out⟩
end Go.Proofs.Ytplgmdbocmfbcaa
