/-
  Kg, Kh, Ki, Kj: in one text.
-/
import Derived.Test.YtimjnmkfbdijeaaLka
import Derived.Test.YtimjnmkfbdijeaaSh
import Derived.Laws.CopyOwn
import Derived.Deep.RegionLaw
import Derived.Test.YtimjnmkfbdijeaaLq
namespace Go.Proofs.Ytimjnmkfbdijeaa
open Go.RowKit Go.Conc
set_option maxRecDepth 100000
set_option linter.unusedSimpArgs false
set_option linter.unusedVariables false

def cb13 (T : List Bool) : List Value := T.map Value.bool
/-- Block g holds the Booleans T, and nothing else. -/
def Tb13 (w : World) (g : Nat) (T : List Bool) : Prop := w.heap[g]? = some (.cells (cb13 T).toArray 4 (0, 0))
section
variable {w w' : World} {g : Nat} {T : List Bool}
theorem Tb13.lt (h : Tb13 w g T) : g < w.heap.size := (Array.getElem?_eq_some_iff.1 h).1
theorem Tb13.keep (h : Tb13 w g T) (hb : Below w.heap.size w w') : Tb13 w' g T := (hb.block g h.lt).trans h
theorem Tb13.cell (h : Tb13 w g T) {i : Nat} {x : Bool} (hi : T[i]? = some x) : w.cell? ⟨g, i, none⟩ = some (.bool x) := by
  rw [cell_of_row w g i _ _ (0, 0) h]
  simp [cb13, hi]
theorem Tb13.froz (h : Tb13 w g T) (i : Nat) : w.frozen? ⟨g, i, none⟩ = false := frozen_of_row w g i _ _ h
theorem Tb13.put (h : Tb13 w g T) (j : Nat) (v : Bool) : Tb13 (w.setCell ⟨g, j, none⟩ (.bool v)) g (T.set j v) := by
  unfold Tb13
  rw [heap_setCell_same w g j _ _ _ h]
  congr 2
  apply Array.ext'
  simp [cb13, List.map_set]
theorem Tb13.other (h : Tb13 w g T) {p : Addr} (hp : p.block ≠ g) (v : Value) : Tb13 (w.setCell p v) g T := (Below.heap_setCell w p v g (fun e => hp e.symm)).trans h
theorem Tb13.own (h : Tb13 w g T) {base m : Nat} (hm : T.length = m) (hb : base ≤ g) (hl : m ≤ 1000000) : w.ownsRow base 4 1 (.slice (some ⟨g, 0, none⟩) m m) m (cb13 T) := by
  subst hm
  exact ⟨by simp [cb13], .inr ⟨g, T.length, (cb13 T).toArray, rfl, hb, h, Nat.le_refl _, by unfold maxLen; omega, by simp [cb13], List.take_of_length_le (by simp [cb13])⟩⟩
end
/-- k trues, and falses up to m. -/
def xb13 (k m : Nat) : List Bool := List.replicate k true ++ List.replicate (m - k) false
theorem xb13_at {k m j : Nat} (h : j < k) : (xb13 k m)[j]? = some true := by
  rw [xb13, List.getElem?_append_left (by simpa using h)]
  simp [h]
theorem xb13_full (m : Nat) : xb13 m m = List.replicate m true := by simp [xb13]
theorem xb13_splice {k m n : Nat} (hk : k + n ≤ m) : splice (cb13 (xb13 k m)) k (List.replicate n (.bool true)) = cb13 (xb13 (k + n) m) := by
  unfold splice cb13 xb13
  rw [List.map_append, List.map_append, List.map_replicate, List.map_replicate, List.map_replicate, List.map_replicate]
  rw [List.take_append_of_le_length (by simp), List.take_of_length_le (by simp), List.length_replicate]
  rw [List.drop_append, List.length_replicate, List.drop_of_length_le (by simp), List.nil_append, List.drop_replicate]
  rw [← List.append_assoc, List.replicate_append_replicate]
  congr 2
  omega
theorem Try.infoB13 : (Try.prog.info? 4).map (fun i => (i.zero, i.size, i.bytes)) = some (some (.bool false), 1, 1) := by kernel_rfl
theorem Try.sizeB13 : (Try.prog.info? 4).map (·.size) = some 1 := by kernel_rfl
theorem madeB13 (n : Nat) (hn : n ≤ 1000) (w : World) : (Instr.makeSlice 30 (.int .i64 (n : Int)) (.int .i64 (n : Int))).run Try.prog w = .ok (.slice (some ⟨w.heap.size, 0, none⟩) n n) (w.alloc (.cells (cb13 (xb13 0 n)).toArray 4)) := by
  have hinfo := Try.infoB13
  rw [Option.map_eq_some_iff] at hinfo
  obtain ⟨i, hi, hz⟩ := hinfo
  simp only [Prod.mk.injEq] at hz
  obtain ⟨hz0, hz1, hz2⟩ := hz
  have hr := run_make (P := Try.prog) w 30 4 i (.bool false) Try.underlying30 hi hz0 .i64 .i64 n n (by omega) (Int.le_refl _) (by rw [hz2]; omega) (by omega)
  rw [hr, hz1, Int.toNat_natCast, Nat.mul_one]
  have e : madeCells #[Value.bool false] n = (cb13 (xb13 0 n)).toArray := by
    rw [← Array.toArray_toList (xs := madeCells #[Value.bool false] n), toList_madeCells_one]
    simp [cb13, xb13]
  rw [← e]
  rfl
/-- copy of trues over what follows. -/
theorem copyb13 (w : World) (g k m n B sl sc : Nat) (ad : Addr) (ht : Tb13 w g (xb13 k m)) (hn : n = Nat.min sl (m - k)) (hk : k ≤ m) (hs : ∀ j, j < n → w.cell? (ad.add j) = some (.bool true)) (hB : B ≤ g) :
    ∃ w4, (Builtin.copy_ #[30, 30] 3 #[.slice (some ⟨g, k, none⟩) (m - k) (m - k), .slice (some ad) sl sc]).run Try.prog w = .ok (.int .i64 n) w4 ∧ Tb13 w4 g (xb13 (k + n) m) ∧ Below B w w4 := by
  have hnk : k + n ≤ m := by
    have : n ≤ m - k := by rw [hn]; exact Nat.min_le_right _ _
    omega
  have hl : (cb13 (xb13 k m)).length = m := by simp [cb13, xb13]; omega
  have hrun := run_copy_row (P := Try.prog) w 30 30 3 4 g k (m - k) (m - k) ad sl sc (cb13 (xb13 k m)).toArray 4 (List.replicate n (.bool true)) Try.underlying30 Try.sizeB13 ht (by rw [List.length_replicate]; exact hn)
    (fun j v h => by
      rw [List.getElem?_replicate] at h
      split at h
      · injection h with h
        rw [← h]
        exact hs j (by assumption)
      · cases h) (by simp only [List.size_toArray, List.length_replicate]; omega) (fun v hv => by rw [List.eq_of_mem_replicate hv]; rfl)
  refine ⟨_, by rw [hrun, List.length_replicate]; rfl, ?_, below_setRow (Below.refl _ _) hB _⟩
  unfold Tb13
  rw [setRow_heap w g _ _ _ _ ht, ← xb13_splice hnk]
  simp [splice]
set_option maxHeartbeats 4000000 in
theorem repeat13_v (g0 m : Nat) (w : World) (h2 : m ≤ 200) (hc : w.cell? ⟨g0, 0, none⟩ = some (.bool true)) :
    Calls Try.prog 57 #[.slice (some ⟨g0, 0, none⟩) 1 1, .int .i64 m] w fun r w' => ∃ g, r = .returned (.slice (some ⟨g, 0, none⟩) m m) ∧ w.heap.size ≤ g ∧ Tb13 w' g (List.replicate m true) ∧ Below w.heap.size w w' := by
  have HC := Lib.hid hc
  have hg0 := cell_lt hc
  have hw0 : IntKind.u64.wrap 1 = 1 := by decide
  have hw1 : IntKind.u64.wrap (m : Int) = (m : Int) := by
    simp [IntKind.wrap, IntKind.signed, IntKind.bits, go_sem]
    omega
  have hw2 : IntKind.i64.wrap (m : Int) = (m : Int) := by
    simp [IntKind.wrap, IntKind.signed, IntKind.bits, go_sem]
    omega
  have HMU : ∀ w, Hid (Calls Try.prog 67 #[.int .u64 1, .int .u64 m] w fun e w' => e = .returned (.tuple #[.int .u64 0, .int .u64 m]) ∧ w = w') := fun w => Lib.hid (by
    have h := Try.bits_Mul 1 m (by omega) (by omega) w
    rw [Nat.one_mul, Nat.div_eq_of_lt (by omega), Nat.mod_eq_of_lt (by omega)] at h
    exact h.mono fun e w' h => ⟨h.1, h.2.symm⟩)
  have hmk := madeB13 m (by omega)
  clear hc
  go_enter Try.func57, Try.ntmps57
  go_wp2_with fail
  refine (HMU _).out.mono ?_
  rintro r w1 ⟨rfl, rfl⟩
  go_upto_region 7 with (fail)
  obtain ⟨g, hg⟩ : ∃ g, w.heap.size = g := ⟨_, rfl⟩
  have HT2 : Hid (Tb13 (w.alloc (.cells (cb13 (xb13 0 m)).toArray 4)) g (xb13 0 m)) := Lib.hid (by rw [← hg]; exact heap_alloc_new w _)
  have HB2 : Hid (Below w.heap.size w (w.alloc (.cells (cb13 (xb13 0 m)).toArray 4))) := Lib.hid new1
  generalize w.alloc (.cells (cb13 (xb13 0 m)).toArray 4) = w2 at HT2 HB2 ⊢
  have HGG := Lib.hid hg
  rw [hg]
  have hgw : w.heap.size ≤ g := by omega
  clear hg hmk
  obtain ⟨n, hn⟩ : ∃ n, n = Nat.min 1 m := ⟨_, rfl⟩
  have hn2 : n = if 1 ≤ m then 1 else m := by rw [hn]; exact Nat.min_def
  have hnm : n ≤ m ∧ n ≤ 1 ∧ (m ≠ 0 → n = 1) := by split at hn2 <;> omega
  obtain ⟨w3, hrun, ht3, hb3⟩ := copyb13 w2 g 0 m n w.heap.size 1 1 ⟨g0, 0, none⟩ HT2.out (by rw [hn, Nat.sub_zero]) (by omega) (fun j hj => by
    obtain rfl : j = 0 := by omega
    exact (HB2.out.cell hg0).trans HC.out) hgw
  rw [Nat.sub_zero] at hrun
  have HB3 := Lib.hid (HB2.out.trans hb3)
  have HT3 : Hid (Tb13 w3 g (xb13 n m)) := Lib.hid (by rw [Nat.zero_add] at ht3; exact ht3)
  clear HT2 HB2 ht3 hb3 hn hn2
  go_wp2_with fail
  go_loopw [8] (fun nv wq => ∃ k : Nat, (m = 0 ∨ 1 ≤ k) ∧ k ≤ m ∧ nv = .int .i64 k ∧ Hid (Tb13 wq g (xb13 k m)) ∧ Hid (Below w.heap.size w wq)) (fun nv _ => m - (intOf nv).toNat)
  case atStart => exact ⟨n, by omega, by omega, rfl, HT3, HB3⟩
  case round =>
    obtain ⟨k, hk1, hkm, rfl, HT, HB⟩ := hrel
    clear HT3 HB3
    by_cases hk : k < m
    · obtain ⟨n, hn⟩ : ∃ n, n = Nat.min k (m - k) := ⟨_, rfl⟩
      have hn2 : n = if k ≤ m - k then k else m - k := by rw [hn]; exact Nat.min_def
      have hn1 : 1 ≤ n := by split at hn2 <;> omega
      have hnm : k + n ≤ m := by split at hn2 <;> omega
      have hnk : n ≤ k := by split at hn2 <;> omega
      obtain ⟨w4, hrun4, ht4, hb4⟩ := copyb13 wr.drew g k m n w.heap.size k m ⟨g, 0, none⟩ HT.out hn hkm (fun j hj => by
        have e : (⟨g, 0, none⟩ : Addr).add j = ⟨g, j, none⟩ := by
          unfold Addr.add
          split
          · rename_i h0; simp [h0]
          · simp
        rw [e]
        exact (show Tb13 wr.drew g (xb13 k m) from HT.out).cell (xb13_at (by omega))) hgw
      have HB4 := Lib.hid ((below_draws HB.out 1).trans hb4)
      have HT4 := Lib.hid ht4
      have hrk : ((m : Int) - (k : Int)).toNat = m - k := by omega
      clear ht4 hb4 hn hn2
      go_upto_region 9 with (fail)
      go_region
      go_wp2_with fail
      go_roundw
      case rel => exact ⟨k + n, by omega, by omega, by go_num, HT4, HB4⟩
      case measure => simp [intOf]; omega
    · obtain rfl : m = k := by omega
      go_wp2_with fail
      go_ret
      exact ⟨g, rfl, hgw, by rw [← xb13_full]; exact HT.out, HB.out⟩
/-! The search in memory. -/
def qv13 (q : List Nat) : Array Value := (q.map fun k : Nat => Value.int .i64 (Int.ofNat k)).toArray
theorem qv13_push (q : List Nat) (k : Nat) : (qv13 q).push (.int .i64 (k : Int)) = qv13 (q ++ [k]) := by simp [qv13]
theorem qv13_size (q : List Nat) : (qv13 q).size = q.length := by simp [qv13]
theorem qv13_head (q : List Nat) (k : Nat) : (qv13 (k :: q)).getD 0 undef = .int .i64 (k : Int) := by simp [qv13]
theorem qv13_tail (q : List Nat) (k : Nat) : (qv13 (k :: q)).extract 1 (qv13 (k :: q)).size = qv13 q := by
  simp [qv13]
  exact List.take_of_length_le (by simp)
/-- g: who was not found; c: who waits; b: is that closed. -/
structure Se13 (w : World) (g c n : Nat) (o : List Bool) (q : List Nat) (b : Bool) : Prop where
  len : o.length = n
  row : Tb13 w g o
  ch : ∃ s r, w.heap[c]? = some (.chan n (qv13 q) b s r false)
section
variable {w w' : World} {g c n : Nat} {o : List Bool} {q : List Nat} {b : Bool} {X : Nat → Prop}
theorem Se13.cl (h : Se13 w g c n o q b) : c < w.heap.size := by
  obtain ⟨s, r, h⟩ := h.ch
  exact (Array.getElem?_eq_some_iff.1 h).1
theorem Se13.ne (h : Se13 w g c n o q b) : c ≠ g := by
  rintro rfl
  obtain ⟨s, r, h1⟩ := h.ch
  have h2 := h.row
  rw [Tb13, h1] at h2
  injection h2 with h2
  cases h2
theorem Se13.keep (h : Se13 w g c n o q b) (hb : Below w.heap.size w w') : Se13 w' g c n o q b := by
  obtain ⟨s, r, h1⟩ := h.ch
  exact ⟨h.len, h.row.keep hb, s, r, (hb.block c h.cl).trans h1⟩
theorem Fr11.chan (h : Fr11 X w w') {c : Nat} (hc : w.heap.size ≤ c ∨ X c) (cap : Nat) (buf : Array Value) (b : Bool) (s r : Nat) (tm : Bool) : Fr11 X w (w'.setChan c cap buf b s r tm) :=
  ⟨h.os, h.tape, h.output, by rw [size_setChan]; exact h.size, fun j hj hx => (setChan_other _ c j _ _ _ _ _ _ (by rintro rfl; rcases hc with hc | hc; omega; exact hx hc)).trans (h.block j hj hx)⟩
theorem Se13.put (h : Se13 w g c n o q false) {k : Nat} : Se13 (w.setCell ⟨g, k, none⟩ (.bool false)) g c n (o.set k false) q false := by
  obtain ⟨s, r, h1⟩ := h.ch
  exact ⟨by rw [List.length_set]; exact h.len, h.row.put k false, s, r, (Below.heap_setCell w ⟨g, k, none⟩ _ c h.ne).trans h1⟩
theorem Se13.chan (h : Se13 w g c n o q b) (q' : List Nat) (b' : Bool) (s r : Nat) : Se13 (w.setChan c n (qv13 q') b' s r false) g c n o q' b' :=
  ⟨h.len, (setChan_other w c g _ _ _ _ _ _ h.ne).trans h.row, s, r, heap_setChan w c n (qv13 q') b' s r false h.cl⟩
end
theorem bt13_some {o : List Bool} {k : Nat} (h : k < o.length) : o[k]? = some (bt13 o k) := by
  rw [bt13, List.getElem?_eq_getElem h]
  rfl
set_option maxHeartbeats 2000000 in
theorem find13_v (g c n k : Nat) (o : List Bool) (q : List Nat) (w : World) (h : Se13 w g c n o q false) (hk : k < n) (hr : bt13 o k = true → q.length < n) :
    Calls Try.prog 46 #[.agg #[.slice (some ⟨g, 0, none⟩) n n, .chan (some c)], .int .i64 (k : Int)] w fun r w' => r = .returned (.tuple #[]) ∧ Se13 w' g c n (fo13 o k) (fq13 o q k) false ∧ Fr11 (fun j => j = g ∨ j = c) w w' := by
  obtain ⟨v, hv⟩ : ∃ v, bt13 o k = v := ⟨_, rfl⟩
  have HV := Lib.hid hv
  have HR := Lib.hid hr
  have HS1 : Hid (Se13 (w.alloc (.cells #[.slice (some ⟨g, 0, none⟩) n n, .chan (some c)] 87)) g c n o q false) := Lib.hid (h.keep new1)
  have HF1 : Hid (Fr11 (fun j => j = g ∨ j = c) w (w.alloc (.cells #[.slice (some ⟨g, 0, none⟩) n n, .chan (some c)] 87))) := Lib.hid ((Fr11.refl _ w).alloc _)
  obtain ⟨B, hB⟩ : ∃ B, w.heap.size = B := ⟨_, rfl⟩
  have hBg : B ≠ g := by have := h.row.lt; omega
  have hBc : B ≠ c := by have := h.cl; omega
  have hb0 : (w.alloc (.cells #[.slice (some ⟨g, 0, none⟩) n n, .chan (some c)] 87)).cell? ⟨B, 0, none⟩ = some (.slice (some ⟨g, 0, none⟩) n n) := by rw [← hB]; simp [go_sem]
  have hb1 : (w.alloc (.cells #[.slice (some ⟨g, 0, none⟩) n n, .chan (some c)] 87)).cell? ⟨B, 1, none⟩ = some (.chan (some c)) := by rw [← hB]; simp [go_sem]
  clear h hr hv
  refine calls_of_wn Try.func46 rfl ?_
  simp only [Try.ntmps46, List.size_toArray, List.length_cons, List.length_nil, Nat.reduceAdd, Nat.reduceSub, Array.replicate_succ, Array.replicate_zero, List.push_toArray, List.append_toArray, List.nil_append, List.cons_append]
  refine wn_then fun K hK => ?_
  go_wp2_with fail
  generalize w.alloc (.cells #[.slice (some ⟨g, 0, none⟩) n n, .chan (some c)] 87) = w1 at HS1 HF1 hb0 hb1 ⊢
  clear hB
  have hgk := HS1.out.row.cell (i := k) (x := v) (by rw [bt13_some (by rw [HS1.out.len]; exact hk), HV.out])
  have hfk := HS1.out.row.froz k
  refine wn_then fun K hK => ?_
  go_wp2_with fail
  refine wn_cond (t := v) rfl ?_
  cases v with
  | true =>
    simp only [if_true]
    refine wn_then fun K hK => ?_
    go_wp2_with fail
    have HS2 := Lib.hid (HS1.out.put (k := k))
    have HF2 := Lib.hid (HF1.out.set (p := ⟨g, k, none⟩) (.inr (.inl rfl)) (.bool false))
    have hc1 : (w1.setCell ⟨g, k, none⟩ (.bool false)).cell? ⟨B, 1, none⟩ = some (.chan (some c)) := by rw [World.cell?_setCell_other _ _ _ _ (fun e => hBg (by injection e with e; exact e.symm))]; exact hb1
    generalize w1.setCell ⟨g, k, none⟩ (.bool false) = w2 at HS2 HF2 hc1 ⊢
    clear hb0 hb1 hgk hfk HS1 HF1
    obtain ⟨s, r, hch⟩ := HS2.out.ch
    have HE : Hid (fo13 o k = o.set k false ∧ fq13 o q k = q ++ [k]) := Lib.hid ⟨by rw [fo13, HV.out]; rfl, by rw [fq13, HV.out]; rfl⟩
    have hroom : (qv13 q).size < n := by rw [qv13_size]; exact HR.out HV.out
    refine wn_region (L := [0, 1, 2, 3]) rfl ?_
    refine Onw.read (v := ?_) rfl rfl ?_ ?_
    rotate_left 1
    · go_simp; try with_reducible rfl
    simp only [Act.put, List.getElem_toArray, List.getElem_cons_zero, List.getElem_cons_succ, List.setIfInBounds_toArray, List.set_cons_zero, List.set_cons_succ]
    refine Onw.read (v := ?_) rfl rfl ?_ ?_
    rotate_left 1
    · go_simp; try with_reducible rfl
    simp only [Act.put, List.getElem_toArray, List.getElem_cons_zero, List.getElem_cons_succ, List.setIfInBounds_toArray, List.set_cons_zero, List.set_cons_succ]
    refine Onw.read (v := ?_) rfl rfl ?_ ?_
    rotate_left 1
    · go_simp; try with_reducible rfl
    simp only [Act.put, List.getElem_toArray, List.getElem_cons_zero, List.getElem_cons_succ, List.setIfInBounds_toArray, List.set_cons_zero, List.set_cons_succ]
    refine Onw.send (v := .int .i64 (k : Int)) (z := .tuple #[]) rfl rfl ?h hch hroom ?_
    case h => simp [execOp, scase, Act.eval]
    simp only [Act.put]
    refine Onw.done ?_
    rw [qv13_push]
    have HS3 := Lib.hid (HS2.out.chan (q ++ [k]) false (s + 1) r)
    have HF3 := Lib.hid (HF2.out.chan (c := c) (.inr (.inr rfl)) n (qv13 (q ++ [k])) false (s + 1) r false)
    go_end0
    exact ⟨rfl, by rw [HE.out.1, HE.out.2]; exact HS3.out, HF3.out⟩
  | false =>
    simp only [if_false, Bool.false_eq_true]
    refine wn_of_wp (wp_skip ?_)
    have HE : Hid (fo13 o k = o ∧ fq13 o q k = q) := Lib.hid ⟨by rw [fo13, HV.out]; rfl, by rw [fq13, HV.out]; rfl⟩
    go_end0
    exact ⟨rfl, by rw [HE.out.1, HE.out.2]; exact HS1.out, HF1.out⟩
set_option maxHeartbeats 2000000 in
theorem endIfNone13_v (g c n : Nat) (o : List Bool) (q : List Nat) (w : World) (h : Se13 w g c n o q false) (hn : q.length ≤ 1000) :
    Calls Try.prog 47 #[.agg #[.slice (some ⟨g, 0, none⟩) n n, .chan (some c)]] w fun r w' => r = .returned (.tuple #[]) ∧ Se13 w' g c n o q q.isEmpty ∧ Fr11 (fun j => j = g ∨ j = c) w w' := by
  have HS1 : Hid (Se13 (w.alloc (.cells #[.slice (some ⟨g, 0, none⟩) n n, .chan (some c)] 87)) g c n o q false) := Lib.hid (h.keep new1)
  have HF1 : Hid (Fr11 (fun j => j = g ∨ j = c) w (w.alloc (.cells #[.slice (some ⟨g, 0, none⟩) n n, .chan (some c)] 87))) := Lib.hid ((Fr11.refl _ w).alloc _)
  obtain ⟨B, hB⟩ : ∃ B, w.heap.size = B := ⟨_, rfl⟩
  have hb1 : (w.alloc (.cells #[.slice (some ⟨g, 0, none⟩) n n, .chan (some c)] 87)).cell? ⟨B, 1, none⟩ = some (.chan (some c)) := by rw [← hB]; simp [go_sem]
  clear h
  go_enter Try.func47, Try.ntmps47
  go_upto_region 1 with (fail)
  generalize w.alloc (.cells #[.slice (some ⟨g, 0, none⟩) n n, .chan (some c)] 87) = w1 at HS1 HF1 hb1 ⊢
  clear hB
  obtain ⟨s, r, hch⟩ := HS1.out.ch
  have hlen := fun ty => run_len_chan (P := Try.prog) 85 ty Try.underlying85 hch
  have hcl := fun ats ty => run_close_open (P := Try.prog) ats ty hch
  rw [qv13_size] at hlen
  clear hch
  cases q with
  | nil =>
    have HE : Hid (Se13 (w1.setChan c n (qv13 []) true s r false) g c n o [] true) := Lib.hid (HS1.out.chan [] true s r)
    have HF := Lib.hid (HF1.out.chan (c := c) (.inr (.inr rfl)) n (qv13 []) true s r false)
    have hcl2 : ∀ ats ty, (Builtin.close_ ats ty #[.chan (some c)]).run Try.prog w1 = .ok (.tuple #[]) (w1.setChan c n (qv13 []) true s r false) := hcl
    clear hcl
    generalize w1.setChan c n (qv13 []) true s r false = w2 at HE HF hcl2 ⊢
    go_wp2_with fail
    go_end0
    exact ⟨rfl, HE.out, HF.out⟩
  | cons x q =>
    clear hcl
    have hne : ¬ ((q.length : Int) + 1 = 0) := by omega
    go_wp2_with fail
    go_end0
    exact ⟨rfl, HS1.out, HF1.out⟩
end Go.Proofs.Ytimjnmkfbdijeaa
namespace Go.Proofs.Ytimjnmkfbdijeaa
open Go.RowKit Go.Conc
set_option maxRecDepth 100000
set_option linter.unusedSimpArgs false
set_option linter.unusedVariables false

/-- Two values lie at block B, which may be written over. -/
def Sv13 (w : World) (B : Nat) (u v : Value) : Prop := B < w.heap.size ∧ w.cell? ⟨B, 0, none⟩ = some u ∧ w.cell? ⟨B, 1, none⟩ = some v ∧ w.frozen? ⟨B, 0, none⟩ = false ∧ w.frozen? ⟨B, 1, none⟩ = false
theorem Sv13.keep {w w' : World} {B : Nat} {u v : Value} (h : Sv13 w B u v) (hb : Below w.heap.size w w') : Sv13 w' B u v := by
  obtain ⟨h1, h2, h3, h4, h5⟩ := h
  obtain ⟨hc, hf⟩ := bcell hb
  exact ⟨Nat.lt_of_lt_of_le h1 hb.size, (hc _ _ h1).trans h2, (hc _ _ h1).trans h3, (hf _ _ h1).trans h4, (hf _ _ h1).trans h5⟩
theorem Sv13.new (w : World) (u v : Value) (t : Nat) : Sv13 (w.alloc (.cells #[u, v] t)) w.heap.size u v := by
  refine ⟨by simp, ?_, ?_, ?_, ?_⟩ <;> simp [go_sem]
abbrev fSv (B : Nat) (u v : Value) : Fct := ⟨fun w => Sv13 w B u v, fun _ _ h hb => h.keep hb⟩
theorem makeCh13 (n : Nat) (hn : n ≤ 200) (w : World) : (Instr.makeChan 85 (.int .i64 (n : Int))).run Try.prog w = .ok (.chan (some w.heap.size)) (w.alloc (.chan n #[] false 0 0 false)) := by
  have h : (Try.prog.info? 3).map (·.bytes) = some 8 := by kernel_rfl
  obtain ⟨i, hi, hb⟩ := Option.map_eq_some_iff.1 h
  exact run_makeChan (P := Try.prog) (w := w) Try.underlying85 hi .i64 n (by omega) (by rw [hb]; omega)
/-- What begin answers. -/
def Be13 (w w' : World) (n : Nat) (r : Ending) : Prop := ∃ g c, r = .returned (.agg #[.slice (some ⟨g, 0, none⟩) n n, .chan (some c)]) ∧ w.heap.size ≤ g ∧ w.heap.size ≤ c ∧ Se13 w' g c n (List.replicate n true) [] false ∧ Below w.heap.size w w'
theorem begin13_end {w wc : World} (tm : Array Value) (R : Exit → Act → World → Prop) (B g C n : Nat) (hR : R = bodyPost Try.prog Try.f45 fun r w' => Be13 w w' n r) (hB : w.heap.size = B) (hS : Below w.heap.size w wc) (hg : B < g) (ht : Tb13 wc g (List.replicate n true)) (hC : B < C) (hc : wc.heap[C]? = some (.chan n #[] false 0 0 false)) (h2 : tm[2]?.getD undef = .pointer (some ⟨B, 0, none⟩)) (hb : Sv13 wc B (.slice none 0 0) (.chan none)) :
    R .ret { tmps := tm, defers := [] } ((wc.setCell ⟨B, 0, none⟩ (.slice (some ⟨g, 0, none⟩) n n)).setCell ⟨B, 1, none⟩ (.chan (some C))) := by
  subst hR
  obtain ⟨b0, b1, b2, b3, b4⟩ := hb
  refine bodyPost_ret (v := .agg #[.slice (some ⟨g, 0, none⟩) n n, .chan (some C)]) (by simp [results, Try.results45, go_sem, h2, b1, b2]) rfl ?_
  refine ⟨g, C, rfl, by omega, by omega, ⟨by simp, ((show Tb13 wc g _ from ht).other (p := ⟨B, 0, none⟩) (by show B ≠ g; omega) _).other (p := ⟨B, 1, none⟩) (by show B ≠ g; omega) _, 0, 0, ?_⟩, (hS.setCell (p := ⟨B, 0, none⟩) (by show w.heap.size ≤ B; omega) _).setCell (p := ⟨B, 1, none⟩) (by show w.heap.size ≤ B; omega) _⟩
  rw [Below.heap_setCell _ _ _ C (by show C ≠ B; omega), Below.heap_setCell _ _ _ C (by show C ≠ B; omega)]
  exact hc
set_option maxHeartbeats 2000000 in
theorem begin13_v (n : Nat) (hn : n ≤ 200) (w : World) : Calls Try.prog 45 #[.int .i64 (n : Int)] w fun r w' => Be13 w w' n r := by
  have S0 : Hid (Sx w (w.alloc (.cells #[.slice none 0 0, .chan none] 87)) [fSv w.heap.size (.slice none 0 0) (.chan none)]) := Lib.hid (((Sx.start w).mk1 _).add (fSv _ _ _) (Sv13.new w _ _ _))
  obtain ⟨B, hB⟩ : ∃ B, w.heap.size = B := ⟨_, rfl⟩
  have HBB0 := Lib.hid hB
  rw [hB] at S0
  have hmc := makeCh13 n hn
  go_enter Try.func45, Try.ntmps45
  go_upto_region 1 with (fail)
  generalize w.alloc (.cells #[.slice none 0 0, .chan none] 87) = w1 at S0 ⊢
  clear hB
  refine wp_region_L [6] (S := fun w' => Hid (Sx w w' [fSv B (.slice none 0 0) (.chan none)])) (by kernel_rfl) (Lib.hid (S0.out.drewN 1)) (fun hHeld => ?_)
  generalize w1.drew = wc0 at hHeld ⊢
  refine wpL_reckon (i := 1) (v := ?_) rfl (by kernel_rfl) (fun _ _ _ h => h) (Or.inl ⟨by rfl, ?_⟩) (Or.inr (by assumption)) ?_
  rotate_left 1
  · intro w _; go_simp; try with_reducible rfl
  try simp only [Act.put, List.getElem_toArray, List.getElem_cons_zero, List.getElem_cons_succ, List.setIfInBounds_toArray, List.set_cons_zero, List.set_cons_succ]
  refine wpL_reckon (i := 3) (v := ?_) rfl (by kernel_rfl) (fun _ _ _ h => h) (Or.inl ⟨by rfl, ?_⟩) (Or.inr (by assumption)) ?_
  rotate_left 1
  · intro w _; go_simp; try with_reducible rfl
  try simp only [Act.put, List.getElem_toArray, List.getElem_cons_zero, List.getElem_cons_succ, List.setIfInBounds_toArray, List.set_cons_zero, List.set_cons_succ]
  refine wpL_ready (rs := [0, 4]) (by kernel_rfl) (by simp) ?_
  refine AllL.cons rfl (fun K hK => ?_) ?_
  · skip
    go_simp
    have HBB := Lib.hid (new1 (w := wc0) (a := .cells #[.bool true] 4))
    obtain ⟨G0, hG0⟩ : ∃ G0, wc0.heap.size = G0 := ⟨_, rfl⟩
    have HL : Hid ((wc0.alloc (.cells #[.bool true] 4)).cell? ⟨G0, 0, none⟩ = some (.bool true)) := Lib.hid (by rw [← hG0]; simp [go_sem])
    rw [hG0]
    clear hG0
    have SA := Lib.hid (hHeld.out.call HBB.out)
    generalize wc0.alloc (.cells #[.bool true] 4) = wc1 at *
    refine hK.out _ _ (SA) (fun hHeld => ?_)
    clear hK K
    try simp only [Act.put, List.getElem_toArray, List.getElem_cons_zero, List.getElem_cons_succ, List.setIfInBounds_toArray, List.set_cons_zero, List.set_cons_succ]
    refine wpL_ready (rs := [2, 4]) (by kernel_rfl) (by simp) ?_
    refine AllL.cons rfl (fun K hK => ?_) ?_
    · skip
      go_simp
      refine (repeat13_v G0 n _ hn HL.out).mono ?_
      rintro r wc2 ⟨g, rfl, hg, ht, hb⟩
      have HBB := Lib.hid hb
      have HT := Lib.hid (And.intro (Nat.lt_of_lt_of_le hHeld.out.2.1.1 hg) ht)
      clear hg ht hb
      replace HL := Lib.hid ((HBB.out.cell (cell_lt HL.out)).trans HL.out)
      go_wp2_with fail
      refine hK.out _ _ (Hsx.call HBB.out hHeld) (fun hHeld => ?_)
      clear hK K
      try simp only [Act.put, List.getElem_toArray, List.getElem_cons_zero, List.getElem_cons_succ, List.setIfInBounds_toArray, List.set_cons_zero, List.set_cons_succ]
      refine wpL_ready (rs := [4]) (by kernel_rfl) (by simp) ?_
      refine AllL.cons rfl (fun K hK => ?_) AllL.nil
      go_simp
      have HBB := Lib.hid (new1 (w := wc2) (a := .chan n #[] false 0 0 false))
      obtain ⟨C, hC⟩ : ∃ C, wc2.heap.size = C := ⟨_, rfl⟩
      have HH : Hid (B < C ∧ (wc2.alloc (.chan n #[] false 0 0 false)).heap[C]? = some (.chan n #[] false 0 0 false)) := Lib.hid ⟨by rw [← hC]; exact hHeld.out.2.1.1, by rw [← hC]; exact heap_alloc_new _ _⟩
      rw [hC]
      clear hC
      replace HL := Lib.hid ((HBB.out.cell (cell_lt HL.out)).trans HL.out)
      replace HT := Lib.hid (And.intro HT.out.1 (HT.out.2.keep HBB.out))
      have SA := Lib.hid (hHeld.out.call HBB.out)
      generalize wc2.alloc (.chan n #[] false 0 0 false) = wc3 at *
      refine hK.out _ _ (SA) (fun hHeld => ?_)
      clear hK K
      try simp only [Act.put, List.getElem_toArray, List.getElem_cons_zero, List.getElem_cons_succ, List.setIfInBounds_toArray, List.set_cons_zero, List.set_cons_succ]
      refine wpL_reckon (i := 5) (v := ?_) rfl (by kernel_rfl) (fun _ _ _ h => h) (Or.inl ⟨by rfl, ?_⟩) (Or.inr (by assumption)) ?_
      rotate_left 1
      · intro w _; go_simp; try with_reducible rfl
      try simp only [Act.put, List.getElem_toArray, List.getElem_cons_zero, List.getElem_cons_succ, List.setIfInBounds_toArray, List.set_cons_zero, List.set_cons_succ]
      refine wpL_ready (rs := [6]) (by kernel_rfl) (by simp) ?_
      refine AllL.late rfl (by kernel_rfl) (fun K hK => ?_) AllL.nil
      obtain ⟨hbw, hsv, -⟩ := hHeld.out
      have HBW := Lib.hid hbw
      have HSV := Lib.hid hsv
      obtain ⟨b0, b1, b2, b3, b4⟩ := hsv
      clear hbw
      go_simp
      refine hK.out _ _ ?_
      clear hK K
      try simp only [Act.put, List.getElem_toArray, List.getElem_cons_zero, List.getElem_cons_succ, List.setIfInBounds_toArray, List.set_cons_zero, List.set_cons_succ]
      refine wpL_done (by kernel_rfl) ?_ _
      go_wp2_with fail
      exact begin13_end _ _ B g C n rfl HBB0.out HBW.out HT.out.1 HT.out.2 HH.out.1 HH.out.2 rfl HSV.out
    refine AllL.cons rfl (fun K hK => ?_) AllL.nil
    go_simp
    have HBB := Lib.hid (new1 (w := wc1) (a := .chan n #[] false 0 0 false))
    obtain ⟨C, hC⟩ : ∃ C, wc1.heap.size = C := ⟨_, rfl⟩
    have HH : Hid (B < C ∧ (wc1.alloc (.chan n #[] false 0 0 false)).heap[C]? = some (.chan n #[] false 0 0 false)) := Lib.hid ⟨by rw [← hC]; exact hHeld.out.2.1.1, by rw [← hC]; exact heap_alloc_new _ _⟩
    rw [hC]
    clear hC
    replace HL := Lib.hid ((HBB.out.cell (cell_lt HL.out)).trans HL.out)
    have SA := Lib.hid (hHeld.out.call HBB.out)
    generalize wc1.alloc (.chan n #[] false 0 0 false) = wc2 at *
    refine hK.out _ _ (SA) (fun hHeld => ?_)
    clear hK K
    try simp only [Act.put, List.getElem_toArray, List.getElem_cons_zero, List.getElem_cons_succ, List.setIfInBounds_toArray, List.set_cons_zero, List.set_cons_succ]
    refine wpL_ready (rs := [2]) (by kernel_rfl) (by simp) ?_
    refine AllL.cons rfl (fun K hK => ?_) AllL.nil
    go_simp
    refine (repeat13_v G0 n _ hn HL.out).mono ?_
    rintro r wc3 ⟨g, rfl, hg, ht, hb⟩
    have HBB := Lib.hid hb
    have HT := Lib.hid (And.intro (Nat.lt_of_lt_of_le hHeld.out.2.1.1 hg) ht)
    clear hg ht hb
    replace HL := Lib.hid ((HBB.out.cell (cell_lt HL.out)).trans HL.out)
    replace HH := Lib.hid (And.intro HH.out.1 ((HBB.out.block C (Array.getElem?_eq_some_iff.1 HH.out.2).1).trans HH.out.2))
    go_wp2_with fail
    refine hK.out _ _ (Hsx.call HBB.out hHeld) (fun hHeld => ?_)
    clear hK K
    try simp only [Act.put, List.getElem_toArray, List.getElem_cons_zero, List.getElem_cons_succ, List.setIfInBounds_toArray, List.set_cons_zero, List.set_cons_succ]
    refine wpL_reckon (i := 5) (v := ?_) rfl (by kernel_rfl) (fun _ _ _ h => h) (Or.inl ⟨by rfl, ?_⟩) (Or.inr (by assumption)) ?_
    rotate_left 1
    · intro w _; go_simp; try with_reducible rfl
    try simp only [Act.put, List.getElem_toArray, List.getElem_cons_zero, List.getElem_cons_succ, List.setIfInBounds_toArray, List.set_cons_zero, List.set_cons_succ]
    refine wpL_ready (rs := [6]) (by kernel_rfl) (by simp) ?_
    refine AllL.late rfl (by kernel_rfl) (fun K hK => ?_) AllL.nil
    obtain ⟨hbw, hsv, -⟩ := hHeld.out
    have HBW := Lib.hid hbw
    have HSV := Lib.hid hsv
    obtain ⟨b0, b1, b2, b3, b4⟩ := hsv
    clear hbw
    go_simp
    refine hK.out _ _ ?_
    clear hK K
    try simp only [Act.put, List.getElem_toArray, List.getElem_cons_zero, List.getElem_cons_succ, List.setIfInBounds_toArray, List.set_cons_zero, List.set_cons_succ]
    refine wpL_done (by kernel_rfl) ?_ _
    go_wp2_with fail
    exact begin13_end _ _ B g C n rfl HBB0.out HBW.out HT.out.1 HT.out.2 HH.out.1 HH.out.2 rfl HSV.out
  refine AllL.cons rfl (fun K hK => ?_) AllL.nil
  go_simp
  have HBB := Lib.hid (new1 (w := wc0) (a := .chan n #[] false 0 0 false))
  obtain ⟨C, hC⟩ : ∃ C, wc0.heap.size = C := ⟨_, rfl⟩
  have HH : Hid (B < C ∧ (wc0.alloc (.chan n #[] false 0 0 false)).heap[C]? = some (.chan n #[] false 0 0 false)) := Lib.hid ⟨by rw [← hC]; exact hHeld.out.2.1.1, by rw [← hC]; exact heap_alloc_new _ _⟩
  rw [hC]
  clear hC
  have SA := Lib.hid (hHeld.out.call HBB.out)
  generalize wc0.alloc (.chan n #[] false 0 0 false) = wc1 at *
  refine hK.out _ _ (SA) (fun hHeld => ?_)
  clear hK K
  try simp only [Act.put, List.getElem_toArray, List.getElem_cons_zero, List.getElem_cons_succ, List.setIfInBounds_toArray, List.set_cons_zero, List.set_cons_succ]
  refine wpL_ready (rs := [0]) (by kernel_rfl) (by simp) ?_
  refine AllL.cons rfl (fun K hK => ?_) AllL.nil
  go_simp
  have HBB := Lib.hid (new1 (w := wc1) (a := .cells #[.bool true] 4))
  obtain ⟨G0, hG0⟩ : ∃ G0, wc1.heap.size = G0 := ⟨_, rfl⟩
  have HL : Hid ((wc1.alloc (.cells #[.bool true] 4)).cell? ⟨G0, 0, none⟩ = some (.bool true)) := Lib.hid (by rw [← hG0]; simp [go_sem])
  rw [hG0]
  clear hG0
  replace HH := Lib.hid (And.intro HH.out.1 ((HBB.out.block C (Array.getElem?_eq_some_iff.1 HH.out.2).1).trans HH.out.2))
  have SA := Lib.hid (hHeld.out.call HBB.out)
  generalize wc1.alloc (.cells #[.bool true] 4) = wc2 at *
  refine hK.out _ _ (SA) (fun hHeld => ?_)
  clear hK K
  try simp only [Act.put, List.getElem_toArray, List.getElem_cons_zero, List.getElem_cons_succ, List.setIfInBounds_toArray, List.set_cons_zero, List.set_cons_succ]
  refine wpL_ready (rs := [2]) (by kernel_rfl) (by simp) ?_
  refine AllL.cons rfl (fun K hK => ?_) AllL.nil
  go_simp
  refine (repeat13_v G0 n _ hn HL.out).mono ?_
  rintro r wc3 ⟨g, rfl, hg, ht, hb⟩
  have HBB := Lib.hid hb
  have HT := Lib.hid (And.intro (Nat.lt_of_lt_of_le hHeld.out.2.1.1 hg) ht)
  clear hg ht hb
  replace HL := Lib.hid ((HBB.out.cell (cell_lt HL.out)).trans HL.out)
  replace HH := Lib.hid (And.intro HH.out.1 ((HBB.out.block C (Array.getElem?_eq_some_iff.1 HH.out.2).1).trans HH.out.2))
  go_wp2_with fail
  refine hK.out _ _ (Hsx.call HBB.out hHeld) (fun hHeld => ?_)
  clear hK K
  try simp only [Act.put, List.getElem_toArray, List.getElem_cons_zero, List.getElem_cons_succ, List.setIfInBounds_toArray, List.set_cons_zero, List.set_cons_succ]
  refine wpL_reckon (i := 5) (v := ?_) rfl (by kernel_rfl) (fun _ _ _ h => h) (Or.inl ⟨by rfl, ?_⟩) (Or.inr (by assumption)) ?_
  rotate_left 1
  · intro w _; go_simp; try with_reducible rfl
  try simp only [Act.put, List.getElem_toArray, List.getElem_cons_zero, List.getElem_cons_succ, List.setIfInBounds_toArray, List.set_cons_zero, List.set_cons_succ]
  refine wpL_ready (rs := [6]) (by kernel_rfl) (by simp) ?_
  refine AllL.late rfl (by kernel_rfl) (fun K hK => ?_) AllL.nil
  obtain ⟨hbw, hsv, -⟩ := hHeld.out
  have HBW := Lib.hid hbw
  have HSV := Lib.hid hsv
  obtain ⟨b0, b1, b2, b3, b4⟩ := hsv
  clear hbw
  go_simp
  refine hK.out _ _ ?_
  clear hK K
  try simp only [Act.put, List.getElem_toArray, List.getElem_cons_zero, List.getElem_cons_succ, List.setIfInBounds_toArray, List.set_cons_zero, List.set_cons_succ]
  refine wpL_done (by kernel_rfl) ?_ _
  go_wp2_with fail
  exact begin13_end _ _ B g C n rfl HBB0.out HBW.out HT.out.1 HT.out.2 HH.out.1 HH.out.2 rfl HSV.out
end Go.Proofs.Ytimjnmkfbdijeaa
namespace Go.Proofs.Ytimjnmkfbdijeaa
open Go.RowKit Go.Conc
set_option maxRecDepth 100000
set_option linter.unusedSimpArgs false
set_option linter.unusedVariables false

/-- The search stands so: in the variable V; below w's heap nothing has changed. -/
def Pf13 (w : World) (g c V n : Nat) (o : List Bool) (q : List Nat) (b : Bool) (wr : World) : Prop :=
  Below w.heap.size w wr ∧ Se13 wr g c n o q b ∧ Sv13 wr V (.slice (some ⟨g, 0, none⟩) n n) (.chan (some c)) ∧ w.heap.size ≤ g ∧ w.heap.size ≤ c ∧ V ≠ g ∧ V ≠ c
section
variable {w wr w' : World} {g c V n : Nat} {o o' : List Bool} {q q' : List Nat} {b b' : Bool}
theorem Pf13.call (h : Pf13 w g c V n o q b wr) (hb : Below wr.heap.size wr w') : Pf13 w g c V n o q b w' :=
  ⟨below_on h.1 hb, h.2.1.keep hb, h.2.2.1.keep hb, h.2.2.2⟩
theorem Pf13.fr (h : Pf13 w g c V n o q b wr) (hs : Se13 w' g c n o' q' b') (hf : Fr11 (fun j => j = g ∨ j = c) wr w') : Pf13 w g c V n o' q' b' w' := by
  obtain ⟨h1, h2, ⟨v1, v2, v3, v4, v5⟩, h4, h5, h6, h7⟩ := h
  have hV := hf.block V v1 (by rintro (e | e); exact h6 e; exact h7 e)
  refine ⟨h1.trans (hf.below fun j hj => ⟨Nat.lt_of_lt_of_le hj h1.size, by rintro (e | e) <;> omega⟩), hs, ⟨Nat.lt_of_lt_of_le v1 hf.size, ?_, ?_, ?_, ?_⟩, h4, h5, h6, h7⟩
  · exact (World.cell?_of_block hV).trans v2
  · exact (World.cell?_of_block hV).trans v3
  · rw [World.frozen?, hV]; exact v4
  · rw [World.frozen?, hV]; exact v5
theorem Pf13.chan (h : Pf13 w g c V n o q b wr) (q' : List Nat) (b' : Bool) (s r : Nat) : Pf13 w g c V n o q' b' (wr.setChan c n (qv13 q') b' s r false) :=
  h.fr (h.2.1.chan q' b' s r) ((Fr11.refl _ wr).chan (.inr (.inr rfl)) _ _ _ _ _ _)
end
/-- What pureOf answers. -/
def Bw13 (w w' : World) (T : List Bool) (r : Ending) : Prop := ∃ g, r = .returned (.slice (some ⟨g, 0, none⟩) T.length T.length) ∧ Tb13 w' g T ∧ w.heap.size ≤ g ∧ Below w.heap.size w w'
set_option maxHeartbeats 8000000 in
theorem pureOf13_v (y : Ma) (d : Md) (Ab : Option Addr) (cb n : Nat) (Y : List Gz) (w : World) (hq : Hq w y d) (hn : d.s.length = n) (bs : n ≤ 200) (hg : Gw11 w Ab cb Y) (hz : Y.map (·.2.2) = gre11 (fun t k => e11 d k t) n) :
    Calls Try.prog 28 #[.slice y.A n y.c, .slice Ab n cb] w fun r w' => Bw13 w w' ((List.range n).map (pu13 d)) r := by
  have hzl := hq.zlen
  have HZL : Hid (y.Z.length = n) := Lib.hid (hzl.trans hn)
  have HN := Lib.hid hn
  have HQ := Lib.hid hq
  have HG := Lib.hid hg
  have HZ := Lib.hid hz
  have HYL : Hid (Y.length = n) := Lib.hid (by have := congrArg List.length hz; simpa [gre11] using this)
  clear hzl hn hq hg hz
  refine calls_of_wn Try.func28 rfl ?_
  simp only [Try.ntmps28, List.size_toArray, List.length_cons, List.length_nil, Nat.reduceAdd, Nat.reduceSub, Array.replicate_succ, Array.replicate_zero, List.push_toArray, List.append_toArray, List.nil_append, List.cons_append]
  refine wn_then fun K hK => ?_
  go_wp2_with fail
  refine wn_then fun K hK => ?_
  go_wp2_with fail
  refine (begin13_v n bs w).mono ?_
  rintro r w1 ⟨g, c, rfl, hg, hc, hs, hb⟩
  go_wp2_with fail
  obtain ⟨V, hV⟩ : ∃ V, w1.heap.size = V := ⟨_, rfl⟩
  rw [hV]
  have HP0 : Hid (Pf13 w g c V n (List.replicate n true) [] false (w1.alloc (.cells #[.slice (some ⟨g, 0, none⟩) n n, .chan (some c)] 87))) := Lib.hid (by
    have h1 := hs.row.lt
    have h2 := hs.cl
    refine ⟨hb.alloc hb.size _, hs.keep new1, ?_, hg, hc, by omega, by omega⟩
    rw [← hV]
    exact Sv13.new w1 _ _ _)
  clear hV hs hb
  generalize w1.alloc (.cells #[.slice (some ⟨g, 0, none⟩) n n, .chan (some c)] 87) = w2 at HP0 ⊢
  have HI0 : Hid (Iv13 (e11 d) n (so13 d) (fun _ => False) (List.replicate n true) []) := Lib.hid Iv13.start
  refine wn_then fun K hK => ?_
  go_wp2_with fail
  go_loopw [16] (fun iv wr => ∃ (k : Nat) (o : List Bool) (q : List Nat), k ≤ n ∧ iv = .int .i64 k ∧ Hid (Pf13 w g c V n o q false wr) ∧ Hid (Iv13 (e11 d) n (so13 d) (fun _ => False) o q) ∧ Hid (∀ j, j < k → so13 d j = true → bt13 o j = false)) (fun iv _ => n - (intOf iv).toNat)
  case atStart => exact ⟨0, _, [], by omega, rfl, HP0, HI0, Lib.hid fun j hj => by omega⟩
  case round =>
    clear HP0 HI0
    obtain ⟨k, o, q, hk, rfl, HP, HI, HD⟩ := hrel
    rename World => wr
    by_cases h1 : k < n
    · have HQR := Lib.hid (HQ.out.keep HP.out.1)
      obtain ⟨ad8, hA8, hat, hok⟩ := HQR.out.2.2.1.at_ (i := k) (by rw [HZL.out]; exact h1)
      have hme := HQR.out.zat (i := k) (by rw [HZL.out]; exact h1) (by rw [HN.out]; exact h1)
      obtain ⟨zz, hzz⟩ : ∃ zz, y.Z[k]'(by rw [HZL.out]; exact h1) = zz := ⟨_, rfl⟩
      rw [hzz] at hat hok hme
      obtain ⟨⟨XA, xc, XB, xd, XD, xk, xe⟩, h, L⟩ := zz
      have HSO : Hid (so13 d k = st13 L) := Lib.hid (by
        rw [so13, co11, List.getElem?_eq_getElem (by rw [HN.out]; exact h1), hme]
        rfl)
      obtain ⟨hH, hRi, hxk⟩ := hok
      dsimp only at hH hRi hxk
      obtain ⟨g0, g1, g2, g3, g4, g5, g6, g7⟩ := hat
      dsimp only at g0 g1 g2 g3 g4 g5 g6 g7
      clear hzz hme
      rw [hA8]
      go_upto_region 5 with (fail)
      have HM := Lib.hid (Mb.new wr ⟨XA, xc, XB, xd, XD, xk, xe⟩ h)
      have HP1 := Lib.hid (HP.out.call (new1 (w := wr) (a := hcel ⟨XA, xc, XB, xd, XD, xk, xe⟩ h)))
      have HR1 := Lib.hid (hRi.keep (new1 (w := wr) (a := hcel ⟨XA, xc, XB, xd, XD, xk, xe⟩ h)))
      obtain ⟨D, hD⟩ : ∃ D, wr.heap.size = D := ⟨_, rfl⟩
      rw [hD] at HM ⊢
      change Code.wp _ _ _ _ (wr.alloc (hcel ⟨XA, xc, XB, xd, XD, xk, xe⟩ h))
      generalize wr.alloc (hcel ⟨XA, xc, XB, xd, XD, xk, xe⟩ h) = w3 at HM HP1 HR1 ⊢
      clear g0 g1 g2 g3 g4 g5 g6 g7 hD hH hRi HP HQR
      obtain ⟨m0, m1, m2, m3, m4, m5, m6, m7, m8⟩ := HM.out
      dsimp only at m8
      have HST := Lib.hid (stores_v XD xe xk L w3 HR1.out hxk)
      obtain ⟨v, hv⟩ : ∃ v, st13 L = v := ⟨_, rfl⟩
      rw [hv] at HST
      have HV := Lib.hid hv
      clear hv hxk
      go_wp2_with fail
      refine HST.out.mono ?_
      rintro r w4 ⟨rfl, hb⟩
      have HP4 := Lib.hid (HP1.out.call hb)
      clear hb HST m0 m1 m2 m3 m4 m5 m6 m7 m8 HM HP1 HR1
      cases v with
      | true =>
        have HF := Lib.hid (find13_v g c n k o q w4 HP4.out.2.1 h1 (HI.out.room h1))
        obtain ⟨v0, v1, v2, v3, v4⟩ := HP4.out.2.2.1
        go_wp2_with fail
        refine HF.out.mono ?_
        rintro r w5 ⟨rfl, hs, hf⟩
        have HP5 := Lib.hid (HP4.out.fr hs hf)
        have HI5 := Lib.hid (HI.out.find h1 (.inl (by rw [HSO.out, HV.out])))
        have HD5 : Hid (∀ j, j < k + 1 → so13 d j = true → bt13 (fo13 o k) j = false) := Lib.hid fun j hj hs => by
          rw [fo13_bt (by rw [HI.out.len]; exact h1)]
          split
          · rfl
          · exact HD.out j (by omega) hs
        clear hs hf HF v0 v1 v2 v3 v4 HP4 HI HD
        go_wp2_with fail
        go_roundw
        case rel => exact ⟨k + 1, _, _, by omega, by go_num, HP5, HI5, HD5⟩
        case measure => simp [intOf]; omega
      | false =>
        have HD5 : Hid (∀ j, j < k + 1 → so13 d j = true → bt13 o j = false) := Lib.hid fun j hj hs => by
          by_cases e : j = k
          · rw [e, HSO.out, HV.out] at hs; cases hs
          · exact HD.out j (by omega) hs
        go_wp2_with fail
        go_roundw
        case rel => exact ⟨k + 1, _, _, by omega, by go_num, HP4, HI, HD5⟩
        case measure => simp [intOf]; omega
    · obtain rfl : n = k := by omega
      go_wp2_with fail
      have hql := nodup_le13 HI.out.nd (fun j hj => (HI.out.wt j hj).1)
      have HE := Lib.hid (endIfNone13_v g c n o q wr HP.out.2.1 (by omega))
      obtain ⟨v0, v1, v2, v3, v4⟩ := HP.out.2.2.1
      clear hql
      refine wn_then fun K2 hK2 => ?_
      go_wp2_with fail
      refine HE.out.mono ?_
      rintro r w5 ⟨rfl, hs, hf⟩
      have HP5 := Lib.hid (HP.out.fr hs hf)
      clear hs hf HE v0 v1 v2 v3 v4 HP
      go_wp2_with fail
      refine wn_seq ?_
      obtain ⟨v0, v1, v2, v3, v4⟩ := HP5.out.2.2.1
      refine wn_then fun K3 hK3 => ?_
      go_wp2_with fail
      clear v0 v1 v2 v3 v4
      refine wn_block ?_
      refine wn_loop (fun m a wr => ∃ (u2 u3 u4 u6 u7 u8 u9 u10 u11 u12 u13 u14 u15 u16 u17 u18 u19 u20 u21 u22 u23 u24 u25 u26 u27 u28 u29 u30 u32 u33 u34 u35 u36 u37 u38 u39 u40 u41 u42 u43 u44 u45 u46 u47 u48 u49 u50 u51 : Value) (o : List Bool) (q : List Nat), a = ⟨#[.slice y.A n y.c, .slice Ab n cb, u2, u3, u4, .pointer (some ⟨V, 0, none⟩), u6, u7, u8, u9, u10, u11, u12, u13, u14, u15, u16, u17, u18, u19, u20, u21, u22, u23, u24, u25, u26, u27, u28, u29, u30, .chan (some c), u32, u33, u34, u35, u36, u37, u38, u39, u40, u41, u42, u43, u44, u45, u46, u47, u48, u49, u50, u51], []⟩ ∧ m = mu13 o q ∧ Hid (Pf13 w g c V n o q q.isEmpty wr) ∧ Hid (Iv13 (e11 d) n (so13 d) (fun _ => False) o q) ∧ Hid (∀ j, j < n → so13 d j = true → bt13 o j = false)) (m := mu13 o q) ⟨_, _, _, _, _, _, _, _, _, _, _, _, _, _, _, _, _, _, _, _, _, _, _, _, _, _, _, _, _, _, _, _, _, _, _, _, _, _, _, _, _, _, _, _, _, _, _, _, o, q, rfl, rfl, HP5, HI, HD⟩ ?_
      clear HP5 HI HD o q
      rintro m a w6 ⟨u2, u3, u4, u6, u7, u8, u9, u10, u11, u12, u13, u14, u15, u16, u17, u18, u19, u20, u21, u22, u23, u24, u25, u26, u27, u28, u29, u30, u32, u33, u34, u35, u36, u37, u38, u39, u40, u41, u42, u43, u44, u45, u46, u47, u48, u49, u50, u51, o, q, rfl, rfl, HP, HI, HD⟩
      obtain ⟨s, r, hch⟩ := HP.out.2.1.ch
      refine wn_seq ?_
      cases q with
      | nil =>
        have HO : Hid (o = (List.range n).map (pu13 d)) := Lib.hid (by
          have h := HI.out
          have h2 := HD.out
          rw [← HN.out] at h h2 ⊢
          exact h.pure h2)
        refine wn_region (L := [0, 1]) rfl ?_
        refine Onw.shut (c := c) (cap := n) (s := s) (r := r) (z := .int .i64 0) (tm := false) rfl rfl ?h hch ?_
        case h => simp [go_sem, rcase]
        simp only [Act.put, List.getElem_toArray, List.getElem_cons_zero, List.getElem_cons_succ, List.setIfInBounds_toArray, List.set_cons_zero, List.set_cons_succ]
        refine Onw.read (v := ?_) rfl rfl ?_ ?_
        rotate_left 1
        · go_simp; try with_reducible rfl
        simp only [Act.put, List.getElem_toArray, List.getElem_cons_zero, List.getElem_cons_succ, List.setIfInBounds_toArray, List.set_cons_zero, List.set_cons_succ]
        refine Onw.done ?_
        refine wn_seq (wn_cond (t := false) rfl ?_)
        simp only [if_false, Bool.false_eq_true]
        refine wn_of_wp (wp_exit ?_)
        refine wn_of_wp ?_
        obtain ⟨v0, v1, v2, v3, v4⟩ := HP.out.2.2.1
        clear hch
        go_wp2_with fail
        go_ret
        exact ⟨g, by rw [List.length_map, List.length_range]; rfl, by rw [← HO.out]; exact HP.out.2.1.row, hg, HP.out.1⟩
      | cons k q =>
        refine wn_region (L := [0, 1]) rfl ?_
        refine Onw.recv (c := c) (cap := n) (s := s) (r := r) (closed := false) (z := .int .i64 0) (tm := false) rfl rfl ?h hch (by simp [qv13]) ?_
        case h => simp [go_sem, rcase]
        rw [qv13_head, qv13_tail]
        have HP2 := Lib.hid (HP.out.chan q false s (r + 1))
        clear hch HP
        generalize w6.setChan c n (qv13 q) false s (r + 1) false = w7 at HP2 ⊢
        simp only [Act.put, List.getElem_toArray, List.getElem_cons_zero, List.getElem_cons_succ, List.setIfInBounds_toArray, List.set_cons_zero, List.set_cons_succ]
        refine Onw.read (v := ?_) rfl rfl ?_ ?_
        rotate_left 1
        · go_simp; try with_reducible rfl
        simp only [Act.put, List.getElem_toArray, List.getElem_cons_zero, List.getElem_cons_succ, List.setIfInBounds_toArray, List.set_cons_zero, List.set_cons_succ]
        refine Onw.done ?_
        refine wn_seq (wn_cond (t := true) rfl ?_)
        simp only [if_true]
        refine wn_of_wp (wp_skip ?_)
        refine wn_of_wp ?_
        obtain ⟨hi2, hkn, hbk⟩ := HI.out.pop
        have HI2 := Lib.hid hi2
        have HTK := Lib.hid (HI.out.tn k hkn hbk)
        obtain ⟨⟨Ak, ck, K⟩, hyk, hyl⟩ := rel_at11 HYL.out HZ.out hkn
        dsimp only at hyl
        obtain ⟨ad, hA, y0, hrk⟩ := (HG.out.keep HP2.out.1).at_ hyk
        subst hA
        rw [gv11] at y0
        dsimp only at y0 hrk
        obtain ⟨kn, hkl⟩ : ∃ kn, K.length = kn := ⟨_, rfl⟩
        rw [hkl] at y0
        have hkn9 : kn ≤ n := by rw [← hkl, hyl]; exact fil_len11 _ _
        have HKN := Lib.hid hkl
        have HKE := Lib.hid hyl
        have HYK := Lib.hid hyk
        have HMU : Hid (mu13 o (k :: q) = mu13 o q + 1) := Lib.hid (by simp [mu13]; omega)
        obtain ⟨m0, hm0⟩ : ∃ m0, mu13 o (k :: q) = m0 := ⟨_, rfl⟩
        have HM0 : Hid (mu13 o q + 1 ≤ m0) := Lib.hid (by rw [← hm0, HMU.out]; exact Nat.le_refl _)
        rw [hm0]
        have HLE := Lib.hid hbk
        clear hi2 hbk hyk hyl hrk hkl hm0 HMU HI
        have HV := HP2.out.2.2.1
        go_wp2_with fail
        clear y0 HV
        go_loopw [40] (fun jv wz => ∃ (i : Nat) (o : List Bool) (q : List Nat), i ≤ kn ∧ jv = .int .i64 i ∧ Hid (Pf13 w g c V n o q false wz) ∧ Hid (Iv13 (e11 d) n (so13 d) (fun j => j = k) o q) ∧ Hid (∀ j, j < n → so13 d j = true → bt13 o j = false) ∧ Hid (mu13 o q + 1 ≤ m0) ∧ Hid (∀ t, t < i → ∀ x, ((List.range n).filter fun j => e11 d j k)[t]? = some x → bt13 o x = false)) (fun jv _ => kn - (intOf jv).toNat)
        case atStart => exact ⟨0, o, q, by omega, rfl, HP2, HI2, HD, HM0, Lib.hid fun t ht => by omega⟩
        case round =>
          clear HP2 HI2 HD HM0
          obtain ⟨i, o, q, hi, rfl, HP, HI, HD, HM, HC⟩ := hrel
          rename World => wz
          by_cases h2 : i < kn
          · obtain ⟨x, hx⟩ : ∃ x, ((List.range n).filter fun j => e11 d j k)[i]? = some x := ⟨_, List.getElem?_eq_getElem (by have := HKN.out; rw [HKE.out, ns11, List.length_map] at this; omega)⟩
            have hxm := List.mem_of_getElem? hx
            rw [List.mem_filter, List.mem_range] at hxm
            obtain ⟨hxn, hxe⟩ := hxm
            have hrk : Rn wz Ak ck K := (HG.out.keep HP.out.1).each _ (List.mem_of_getElem? HYK.out)
            obtain ⟨bd, hAk, z0⟩ := hrk.at_ (show K[i]? = some (x : Int) by rw [HKE.out]; exact ns11_at hx)
            subst hAk
            have HF := Lib.hid (find13_v g c n x o q wz HP.out.2.1 hxn (HI.out.room hxn))
            have HI5 := Lib.hid (HI.out.find hxn (Tn13.call hxn hkn hxe HTK.out))
            have hbx := fun j => fo13_bt (o := o) (k := x) (by rw [HI.out.len]; exact hxn) j
            have HD5 : Hid (∀ j, j < n → so13 d j = true → bt13 (fo13 o x) j = false) := Lib.hid fun j hj hs => by
              rw [hbx]
              split
              · rfl
              · exact HD.out j hj hs
            have HM5 : Hid (mu13 (fo13 o x) (fq13 o q x) + 1 ≤ m0) := Lib.hid (by
              have h1 := mu13_find (o := o) (q := q) (k := x)
              have h2 := HM.out
              omega)
            have HC5 : Hid (∀ t, t < i + 1 → ∀ z, ((List.range n).filter fun j => e11 d j k)[t]? = some z → bt13 (fo13 o x) z = false) := Lib.hid fun t ht z hz => by
              rw [hbx]
              split
              · rfl
              · rename_i hzx
                by_cases e : t = i
                · subst e
                  rw [hx] at hz
                  injection hz with hz
                  exact absurd hz.symm hzx
                · exact HC.out t (by omega) z hz
            obtain ⟨v0, v1, v2, v3, v4⟩ := HP.out.2.2.1
            clear hx hxe hrk hbx
            go_wp2_with fail
            refine HF.out.mono ?_
            rintro r wy ⟨rfl, hs, hf⟩
            have HP5 := Lib.hid (HP.out.fr hs hf)
            clear hs hf HF v0 v1 v2 v3 v4 z0 HP HI HD HM HC
            go_wp2_with fail
            go_roundw
            case rel => exact ⟨i + 1, _, _, by omega, by go_num, HP5, HI5, HD5, HM5, HC5⟩
            case measure => simp [intOf]; omega
          · obtain rfl : kn = i := by omega
            have HI5 := Lib.hid (HI.out.shut fun j hj he => by
              have hm : j ∈ (List.range n).filter fun j => e11 d j k := by rw [List.mem_filter, List.mem_range]; exact ⟨hj, he⟩
              obtain ⟨t, ht⟩ := List.getElem?_of_mem hm
              refine HC.out t ?_ j ht
              have h1 := (List.getElem?_eq_some_iff.1 ht).1
              have h2 := HKN.out
              rw [HKE.out, ns11, List.length_map] at h2
              omega)
            have hql := nodup_le13 HI.out.nd (fun j hj => (HI.out.wt j hj).1)
            have HE := Lib.hid (endIfNone13_v g c n o q wz HP.out.2.1 (by omega))
            obtain ⟨v0, v1, v2, v3, v4⟩ := HP.out.2.2.1
            clear hql
            go_wp2_with fail
            refine HE.out.mono ?_
            rintro r wy ⟨rfl, hs, hf⟩
            have HP5 := Lib.hid (HP.out.fr hs hf)
            clear hs hf HE v0 v1 v2 v3 v4 HP HI HC
            have HM1 := HM.out
            go_wp2_with fail
            exact ⟨mu13 o q, by omega, _, _, _, _, _, _, _, _, _, _, _, _, _, _, _, _, _, _, _, _, _, _, _, _, _, _, _, _, _, _, _, _, _, _, _, _, _, _, _, _, _, _, _, _, _, _, _, _, o, q, rfl, rfl, HP5, HI5, HD⟩
end Go.Proofs.Ytimjnmkfbdijeaa
namespace Go.Proofs.Ytimjnmkfbdijeaa
open Go.RowKit Go.Conc
set_option maxRecDepth 100000
set_option linter.unusedSimpArgs false
set_option linter.unusedVariables false

/-- What tells Booleans and an error. -/
def Bo13 (w w' : World) (T : List Bool × Int) (r : Ending) : Prop := ∃ A c, r = .returned (.tuple #[.slice A T.1.length c, .int .i64 T.2]) ∧ w'.ownsRow w.heap.size 4 1 (.slice A T.1.length c) T.1.length (cb13 T.1) ∧ Below w.heap.size w w'
theorem Bo13.err {w w' : World} {T : List Bool × Int} {e : Int} (hT : T = ([], e)) (hb : Below w.heap.size w w') : Bo13 w w' T (.returned (.tuple #[.slice none 0 0, .int .i64 e])) := by
  subst hT
  exact ⟨none, 0, rfl, World.ownsRow_nil _ _ _ _, hb⟩
set_option maxHeartbeats 2000000 in
theorem pure13_v (y : Ma) (d : Md) (w : World) (hq : Hq w y d) (bs : d.s.length ≤ 200) (bl : ∀ z ∈ d.s, z.2.length ≤ 1000) : Calls Try.prog 13 #[dv y d] w fun r w' => Bo13 w w' (pu13T d) r := by
  have S0 := Lib.hid ((((Sx.start w).add (fQm y d) hq).mkD y d))
  obtain ⟨B, hB⟩ : ∃ B, w.heap.size = B := ⟨_, rfl⟩
  have HBB := Lib.hid hB
  rw [hB] at S0
  have HBS := Lib.hid bs
  have HBL := Lib.hid bl
  clear hq bs bl
  go_enter Try.func13, Try.ntmps13
  go_upto_region 1 with (fail)
  change Code.wp _ _ _ _ (w.alloc (dcel y d))
  generalize w.alloc (dcel y d) = w1 at S0 ⊢
  clear hB
  have HGR := Lib.hid (callersOf_v y d w1 S0.out.2.2.1 (by have := HBS.out; omega) HBL.out)
  obtain ⟨-, ⟨d0, d1, d2, d3, d4⟩, -⟩ := S0.out
  go_wp2_with fail
  refine HGR.out.mono ?_
  clear HGR d0 d1 d2 d3 d4
  rintro r w2 h
  rcases h with ⟨hba, rfl, hb⟩ | ⟨hba, A, c, Y, rfl, hgo, hyl, hgr, hb⟩
  · have HE := Lib.hid (Bo13.err (w := w) (w' := w2) (T := pu13T d) (e := 2) (by rw [pu13T, if_pos hba]) (S0.out.call hb).1)
    clear hb hba S0
    go_wp2_with fail
    go_ret2
    exact HE.out
  · have S2 := Lib.hid (S0.out.call hb)
    obtain ⟨-, ⟨d0, d1, d2, d3, d4⟩, -⟩ := S2.out
    have HPO := Lib.hid (pureOf13_v y d A c d.s.length Y w2 S2.out.2.2.1 rfl HBS.out hgo.gw hgr)
    have HT : Hid (pu13T d = ((List.range d.s.length).map (pu13 d), 0)) := Lib.hid (by rw [pu13T, if_neg (by rw [hba]; simp)])
    clear hb hba hgo hyl hgr S0
    go_wp2_with fail
    refine HPO.out.mono ?_
    rintro r w3 ⟨g, rfl, ht, hg, hb⟩
    have HTB := Lib.hid ht
    have HB := Lib.hid (S2.out.call hb).1
    have hgw : w.heap.size ≤ g := Nat.le_trans S2.out.1.size hg
    clear ht hb HPO d0 d1 d2 d3 d4
    go_wp2_with fail
    go_ret2
    have hlm : ((List.range d.s.length).map (pu13 d)).length = d.s.length := by rw [List.length_map, List.length_range]
    rw [HT.out]
    exact ⟨some ⟨g, 0, none⟩, d.s.length, by dsimp only; rw [hlm]; rfl, by dsimp only; rw [hlm]; exact HTB.out.own hlm hgw (by have := HBS.out; omega), HB.out⟩
/-- Is something wrong at the method k? -/
def ck13 (d : Md) (k : Nat) : Bool := (re13 d k && so13 d k) || (!re13 d k && (List.range d.s.length).any fun i => e11 d i k && re13 d i)
theorem sd13_ck (d : Md) : sd13 d = (List.range d.s.length).all fun k => !ck13 d k := by
  rw [Bool.eq_iff_iff, sd13_iff, List.all_eq_true]
  simp only [List.mem_range, ck13, Bool.not_eq_true', Bool.or_eq_false_iff, Bool.and_eq_false_iff, Bool.not_eq_false', List.any_eq_false, Bool.and_eq_true, not_and, Bool.not_eq_true]
  constructor
  · intro h k hk
    cases hr : re13 d k with
    | true => exact ⟨.inr (h k hk hr).1, .inl rfl⟩
    | false =>
      refine ⟨.inl rfl, .inr fun i hi he => ?_⟩
      cases hi2 : re13 d i with
      | false => rfl
      | true =>
        have := (h i hi hi2).2 k hk he
        rw [hr] at this
        cases this
  · intro h k hk hr
    refine ⟨?_, fun i hi he => ?_⟩
    · rcases (h k hk).1 with h1 | h1
      · rw [hr] at h1; cases h1
      · exact h1
    · rcases (h i hi).2 with h1 | h1
      · exact h1
      · have := h1 k hk he
        rw [hr] at this
        cases this
theorem any13 (d : Md) (n k : Nat) : (ns11 ((List.range n).filter fun j => e11 d j k)).any (fun x => re13 d x.toNat) = (List.range n).any fun i => e11 d i k && re13 d i := by
  rw [ns11, List.any_map, List.any_filter]
  congr 1
theorem reads13_v (y : Ma) (d : Md) (B k : Nat) (w : World) (hq : Hq w y d) (hd : Db w B y d) (hk : k < d.s.length) : Calls Try.prog 36 #[.int .i64 (k : Int), .pointer (some ⟨B, 0, none⟩)] w fun r w' => r = .returned (.bool (re13 d k)) ∧ w = w' := by
  obtain ⟨d0, d1, d2, d3, d4⟩ := hd
  have hzl := hq.zlen
  obtain ⟨ad8, hA8, hat, hok⟩ := hq.2.2.1.at_ (i := k) (by omega)
  have hme := hq.zat (i := k) (by omega) hk
  obtain ⟨zz, hzz⟩ : ∃ zz, y.Z[k]'(by omega) = zz := ⟨_, rfl⟩
  rw [hzz] at hat hok hme
  obtain ⟨⟨XA, xc, XB, xd, XD, xk, xe⟩, h, L⟩ := zz
  have HR : Hid (re13 d k = h.q) := Lib.hid (by rw [re13, hd13, List.getElem?_eq_getElem hk, hme]; rfl)
  obtain ⟨-, -, -, g3, -⟩ := hat
  dsimp only at g3
  rw [hA8] at d3
  clear hq hme hzz hok hA8
  go_enter Try.func36, Try.ntmps36
  go_wp2_with fail
  go_ret
  exact ⟨by rw [HR.out]; rfl, rfl⟩
set_option maxHeartbeats 2000000 in
theorem indexN13_v (y : Ma) (d : Md) (B : Nat) (A : Option Addr) (c m : Nat) (K : List Int) (w : World) (hq : Hq w y d) (hd : Db w B y d) (hr : Rn w A c K) (hm : K.length = m) (hK : ∀ x ∈ K, ∃ j : Nat, x = (j : Int) ∧ j < d.s.length) :
    Calls Try.prog 49 #[.slice A m c, .func (.func 36) #[] #[.pointer (some ⟨B, 0, none⟩)]] w fun r w' => ∃ i : Int, r = .returned (.int .i64 i) ∧ decide (0 ≤ i) = (K.any fun x => re13 d x.toNat) ∧ w = w' := by
  have HR := Lib.hid hr
  have HM := Lib.hid hm
  have HK := Lib.hid hK
  have HQ := Lib.hid hq
  have HD := Lib.hid hd
  have hm9 : m ≤ 9223372036854775807 := by have := hr.1; have := hr.2.1; unfold maxLen at this; omega
  clear hr hm hK hq hd
  go_enter Try.func49, Try.ntmps49
  go_wp2_with fail
  go_loopw [8] (fun iv wr => ∃ i : Nat, i ≤ m ∧ iv = .int .i64 i ∧ Hid (((K.take i).any fun x => re13 d x.toNat) = false) ∧ w = wr) (fun iv _ => m - (intOf iv).toNat)
  case atStart => exact ⟨0, by omega, rfl, Lib.hid (by simp), rfl⟩
  case round =>
    obtain ⟨i, hi, rfl, HI, rfl⟩ := hrel
    by_cases h1 : i < m
    · obtain ⟨x, hx⟩ : ∃ x, K[i]? = some x := ⟨_, List.getElem?_eq_getElem (by rw [HM.out]; exact h1)⟩
      obtain ⟨ad, hA, k1⟩ := HR.out.at_ hx
      obtain ⟨j, rfl, hj⟩ := HK.out x (List.mem_of_getElem? hx)
      subst hA
      have HX := Lib.hid hx
      have HC := Lib.hid (reads13_v y d B j w HQ.out HD.out hj)
      obtain ⟨v, hv⟩ : ∃ v, re13 d j = v := ⟨_, rfl⟩
      have HV := Lib.hid hv
      rw [hv] at HC
      clear hx hv
      go_wp2_with fail
      refine HC.out.mono ?_
      rintro r w2 ⟨rfl, rfl⟩
      clear HC
      cases v with
      | true =>
        have HS : Hid ((K.any fun x => re13 d x.toNat) = true) := Lib.hid (by
          rw [List.any_eq_true]
          exact ⟨_, List.mem_of_getElem? HX.out, HV.out⟩)
        go_wp2_with fail
        go_ret
        exact ⟨_, rfl, by rw [HS.out]; simp, rfl⟩
      | false =>
        have HI2 : Hid (((K.take (i + 1)).any fun x => re13 d x.toNat) = false) := Lib.hid (by
          rw [List.take_add_one, HX.out, List.any_append, HI.out]
          simpa using HV.out)
        go_wp2_with fail
        go_roundw
        case rel => exact ⟨i + 1, by omega, by go_num, HI2, trivial⟩
        case measure => simp [intOf]; omega
    · obtain rfl : m = i := by omega
      have HS : Hid ((K.any fun x => re13 d x.toNat) = false) := Lib.hid (by
        have := HI.out
        rwa [List.take_of_length_le (by rw [HM.out]; exact Nat.le_refl _)] at this)
      go_wp2_with fail
      go_ret
      exact ⟨_, rfl, by rw [HS.out]; rfl, rfl⟩
theorem containsN13_v (y : Ma) (d : Md) (B : Nat) (A : Option Addr) (c m : Nat) (K : List Int) (w : World) (hq : Hq w y d) (hd : Db w B y d) (hr : Rn w A c K) (hm : K.length = m) (hK : ∀ x ∈ K, ∃ j : Nat, x = (j : Int) ∧ j < d.s.length) :
    Calls Try.prog 37 #[.slice A m c, .func (.func 36) #[] #[.pointer (some ⟨B, 0, none⟩)]] w fun r w' => r = .returned (.bool (K.any fun x => re13 d x.toNat)) ∧ w = w' := by
  have HC := Lib.hid (indexN13_v y d B A c m K w hq hd hr hm hK)
  clear hr hm hq hd hK
  go_enter Try.func37, Try.ntmps37
  go_wp2_with fail
  refine HC.out.mono ?_
  rintro r w2 ⟨i, rfl, hi, rfl⟩
  have HI := Lib.hid hi
  clear hi HC
  go_wp2_with fail
  go_ret
  exact ⟨by rw [← HI.out]; rfl, rfl⟩
set_option maxHeartbeats 8000000 in
theorem check13_v (y : Ma) (d : Md) (w : World) (hq : Hq w y d) (bs : d.s.length ≤ 1000) (bl : ∀ z ∈ d.s, z.2.length ≤ 1000) : Calls Try.prog 17 #[dv y d] w fun r w' => r = .returned (.int .i64 (ch13 d)) ∧ Below w.heap.size w w' := by
  have hzl := hq.zlen
  have HZL := Lib.hid hzl
  have S0 := Lib.hid ((((Sx.start w).add (fQm y d) hq).mkD y d))
  obtain ⟨B, hB⟩ : ∃ B, w.heap.size = B := ⟨_, rfl⟩
  have HBB := Lib.hid hB
  rw [hB] at S0
  have HBS := Lib.hid bs
  have HBL := Lib.hid bl
  clear hq bl hzl
  go_enter Try.func17, Try.ntmps17
  go_upto_region 1 with (fail)
  change Code.wp _ _ _ _ (w.alloc (dcel y d))
  generalize w.alloc (dcel y d) = w1 at S0 ⊢
  clear hB
  have HGR := Lib.hid (callersOf_v y d w1 S0.out.2.2.1 HBS.out HBL.out)
  obtain ⟨-, ⟨d0, d1, d2, d3, d4⟩, -⟩ := S0.out
  go_wp2_with fail
  refine HGR.out.mono ?_
  clear HGR d0 d1 d2 d3 d4
  rintro r w2 h
  rcases h with ⟨hba, rfl, hb⟩ | ⟨hba, A, c, Y, rfl, hgo, hyl, hgr, hb⟩
  · have HE : Hid (ch13 d = 2) := Lib.hid (by rw [ch13, if_pos hba])
    have HB := Lib.hid (S0.out.call hb).1
    clear hb hba S0
    go_wp2_with fail
    go_ret
    exact ⟨by rw [HE.out]; rfl, HB.out⟩
  · have S2 := Lib.hid ((S0.out.call hb).add (fGw A c Y) hgo.gw)
    have HBA := Lib.hid hba
    obtain ⟨n, hn⟩ : ∃ n, d.s.length = n := ⟨_, rfl⟩
    have HN := Lib.hid hn
    rw [hn] at hyl hgr bs ⊢
    have HYL := Lib.hid hyl
    have HGR := Lib.hid hgr
    have HCK : Hid (ch13 d = if ((List.range n).all fun k => !ck13 d k) = true then 0 else 130) := Lib.hid (by rw [ch13, if_neg (by rw [hba]; simp), sd13_ck, hn])
    clear hb hba hgo hyl hgr S0 hn
    obtain ⟨-, -, ⟨d0, d1, d2, d3, d4⟩, -⟩ := S2.out
    rw [HN.out] at d3
    go_wp2_with fail
    clear d0 d1 d2 d3 d4
    go_loopw [20] (fun iv wr => ∃ k : Nat, k ≤ n ∧ iv = .int .i64 k ∧ Hid (∀ j, j < k → ck13 d j = false) ∧ Hid (Sx w wr [fGw A c Y, fD B y d, fQm y d])) (fun iv _ => n - (intOf iv).toNat)
    case atStart => exact ⟨0, by omega, rfl, Lib.hid (fun j hj => by omega), S2⟩
    case round =>
      clear S2
      obtain ⟨k, hk, rfl, HC, SR⟩ := hrel
      rename World => wr
      by_cases h1 : k < n
      · obtain ⟨ad8, hA8, hat, hok⟩ := SR.out.2.2.2.1.2.2.1.at_ (i := k) (by rw [HZL.out, HN.out]; exact h1)
        have hme := SR.out.2.2.2.1.zat (i := k) (by rw [HZL.out, HN.out]; exact h1) (by rw [HN.out]; exact h1)
        obtain ⟨zz, hzz⟩ : ∃ zz, y.Z[k]'(by rw [HZL.out, HN.out]; exact h1) = zz := ⟨_, rfl⟩
        rw [hzz] at hat hok hme
        obtain ⟨⟨XA, xc, XB, xd, XD, xk, xe⟩, h, L⟩ := zz
        have HSO : Hid (so13 d k = st13 L) := Lib.hid (by
          rw [so13, co11, List.getElem?_eq_getElem (by rw [HN.out]; exact h1), hme]
          rfl)
        have HRE : Hid (re13 d k = h.q) := Lib.hid (by rw [re13, hd13, List.getElem?_eq_getElem (by rw [HN.out]; exact h1), hme]; rfl)
        obtain ⟨hH, hRi, hxk⟩ := hok
        dsimp only at hH hRi hxk
        obtain ⟨g0, g1, g2, g3, g4, g5, g6, g7⟩ := hat
        dsimp only at g0 g1 g2 g3 g4 g5 g6 g7
        clear hzz hme
        rw [hA8]
        go_upto_region 8 with (fail)
        have HM := Lib.hid (Mb.new wr ⟨XA, xc, XB, xd, XD, xk, xe⟩ h)
        have SR1 := Lib.hid (SR.out.call (new1 (w := wr) (a := hcel ⟨XA, xc, XB, xd, XD, xk, xe⟩ h)))
        have HR1 := Lib.hid (hRi.keep (new1 (w := wr) (a := hcel ⟨XA, xc, XB, xd, XD, xk, xe⟩ h)))
        obtain ⟨D, hD⟩ : ∃ D, wr.heap.size = D := ⟨_, rfl⟩
        rw [hD] at HM ⊢
        change Code.wp _ _ _ _ (wr.alloc (hcel ⟨XA, xc, XB, xd, XD, xk, xe⟩ h))
        generalize wr.alloc (hcel ⟨XA, xc, XB, xd, XD, xk, xe⟩ h) = w3 at HM SR1 HR1 ⊢
        clear g0 g1 g2 g3 g4 g5 g6 g7 hD hH hRi SR
        obtain ⟨m0, m1, m2, m3, m4, m5, m6, m7, m8⟩ := HM.out
        dsimp only at m4 m8
        obtain ⟨u, hu⟩ : ∃ u, h.q = u := ⟨_, rfl⟩
        have HU : Hid (re13 d k = u) := Lib.hid (by rw [HRE.out, hu])
        rw [hu] at m4
        have HHQ := Lib.hid hu
        clear hu
        cases u with
        | true =>
          have HST := Lib.hid (stores_v XD xe xk L w3 HR1.out hxk)
          obtain ⟨v, hv⟩ : ∃ v, st13 L = v := ⟨_, rfl⟩
          rw [hv] at HST
          have HV := Lib.hid hv
          clear hv hxk
          go_wp2_with fail
          refine HST.out.mono ?_
          rintro r w4 ⟨rfl, hb⟩
          have S4 := Lib.hid (SR1.out.call hb)
          have HM4 := Lib.hid (HM.out.keep hb)
          clear hb HST m0 m1 m2 m3 m4 m5 m6 m7 m8 HM SR1 HR1
          have m4 := HM4.out.2.2.2.2.1
          rw [HHQ.out] at m4
          cases v with
          | true =>
            have HE : Hid (ch13 d = 130) := Lib.hid (by
              rw [HCK.out, if_neg]
              intro h
              rw [List.all_eq_true] at h
              have := h k (List.mem_range.2 h1)
              rw [ck13, HU.out, HSO.out, HV.out] at this
              simp at this)
            go_wp2_with fail
            go_ret
            exact ⟨by rw [HE.out]; rfl, S4.out.1⟩
          | false =>
            have HC2 : Hid (∀ j, j < k + 1 → ck13 d j = false) := Lib.hid fun j hj => by
              by_cases e : j = k
              · rw [e, ck13, HU.out, HSO.out, HV.out]; simp
              · exact HC.out j (by omega)
            go_wp2_with fail
            go_roundw
            case rel => exact ⟨k + 1, by omega, by go_num, HC2, S4⟩
            case measure => simp [intOf]; omega
        | false =>
          obtain ⟨⟨Ak, ck, K⟩, hyk, hyl⟩ := rel_at11 HYL.out HGR.out h1
          dsimp only at hyl
          obtain ⟨ad, hA, y0, hrk⟩ := SR1.out.2.1.at_ hyk
          subst hA
          rw [gv11] at y0
          dsimp only at y0 hrk
          have HCO := Lib.hid (containsN13_v y d B Ak ck K.length K w3 SR1.out.2.2.2.1 SR1.out.2.2.1 hrk rfl (fun x hx => by
            rw [hyl, ns11, List.mem_map] at hx
            obtain ⟨j, hj, rfl⟩ := hx
            rw [List.mem_filter, List.mem_range] at hj
            exact ⟨j, rfl, by rw [HN.out]; exact hj.1⟩))
          obtain ⟨v, hv⟩ : ∃ v, (K.any fun x => re13 d x.toNat) = v := ⟨_, rfl⟩
          rw [hv] at HCO
          have HV : Hid (((List.range n).any fun i => e11 d i k && re13 d i) = v) := Lib.hid (by rw [← any13, ← hv, hyl])
          clear hv hyl hyk hrk hxk
          go_wp2_with fail
          refine HCO.out.mono ?_
          rintro r w4 ⟨rfl, rfl⟩
          clear HCO m0 m1 m2 m3 m4 m5 m6 m7 m8
          cases v with
          | true =>
            have HE : Hid (ch13 d = 130) := Lib.hid (by
              rw [HCK.out, if_neg]
              intro h
              rw [List.all_eq_true] at h
              have := h k (List.mem_range.2 h1)
              rw [ck13, HU.out, HN.out, HV.out] at this
              simp at this)
            go_wp2_with fail
            go_ret
            exact ⟨by rw [HE.out]; rfl, SR1.out.1⟩
          | false =>
            have HC2 : Hid (∀ j, j < k + 1 → ck13 d j = false) := Lib.hid fun j hj => by
              by_cases e : j = k
              · rw [e, ck13, HU.out, HN.out, HV.out]; simp
              · exact HC.out j (by omega)
            go_wp2_with fail
            go_roundw
            case rel => exact ⟨k + 1, by omega, by go_num, HC2, SR1⟩
            case measure => simp [intOf]; omega
      · obtain rfl : n = k := by omega
        have HE : Hid (ch13 d = 0) := Lib.hid (by
          rw [HCK.out, if_pos]
          rw [List.all_eq_true]
          intro j hj
          rw [HC.out j (List.mem_range.1 hj)]
          rfl)
        go_wp2_with fail
        go_ret
        exact ⟨by rw [HE.out]; rfl, SR.out.1⟩
end Go.Proofs.Ytimjnmkfbdijeaa
