/-
  Layer 15 (heap): words in blocks, arrays behind one another in one block, rows of rows; what the chapter says, on lists.
-/
import Derived.Test.YtibiocjdkndnhaaFre
import Derived.Laws.OwnMore
import Derived.Maps.AppendAt
import Derived.Laws.AppendOwnNone
namespace Go.Proofs.Ytibiocjdkndnhaa
open Go.RowKit
set_option maxRecDepth 100000
set_option linter.unusedSimpArgs false
set_option linter.unusedVariables false

theorem sz15 (w : World) (o : Obj) : (w.alloc o).heap.size = w.heap.size + 1 := by simp
theorem ad15 (a : Addr) (i : Nat) : (a.add i).block = a.block := by unfold Addr.add; split <;> rfl
theorem as15 (g o i : Nat) : (⟨g, o, none⟩ : Addr).add i = ⟨g, o + i, none⟩ := by
  unfold Addr.add
  split
  · rename_i h; subst h; rfl
  · rfl
theorem nb15 {w w' : World} (h : Below w.heap.size w w') : Fr11 (fun _ => False) w w' := Fr11.of_below h fun j h1 h2 => by omega

/-! On lists. -/
def off15 (Z : List (List Int)) (k : Nat) : Nat := ((Z.take k).flatten).length
def us15 (Z : List (List Int)) : Nat := Z.flatten.length
def wz15 (R : Nat) (Z : List (List Int)) : List Int := Z.flatten ++ List.replicate (R - us15 Z) 0
/-- The array of that number, or none. -/
def row15 (Z : List (List Int)) (r : Int) : List Int := if 0 ≤ r then Z[r.toNat]?.getD [] else []
def is15 (Z : List (List Int)) (r : Int) : Bool := decide (0 ≤ r) && decide (r < (Z.length : Int))
def pl15 (Z : List (List Int)) (r i : Int) : Bool := decide (0 ≤ i) && decide (i < ((row15 Z r).length : Int))
def at15 (Z : List (List Int)) (r i : Int) : Int := if pl15 Z r i = true then (row15 Z r)[i.toNat]?.getD 0 else 0
def put15 (Z : List (List Int)) (r i v : Int) : List (List Int) := if pl15 Z r i = true then Z.set r.toNat ((row15 Z r).set i.toNat v) else Z
def mkE15 (R : Nat) (Z : List (List Int)) (n : Int) : Int := if n < 0 ∨ 1024 < n then 2 else if (R : Int) < us15 Z + n then 4 else 0
def mkN15 (R : Nat) (Z : List (List Int)) (n : Int) : Int := if mkE15 R Z n = 0 then (Z.length : Int) else 0
def mkZ15 (R : Nat) (Z : List (List Int)) (n : Int) : List (List Int) := if mkE15 R Z n = 0 then Z ++ [List.replicate n.toNat 0] else Z
section
variable {Z : List (List Int)} {z : List Int} {k i R : Nat} {v r : Int}
theorem spl15 (h : Z[k]? = some z) : Z = Z.take k ++ z :: Z.drop (k + 1) := by
  obtain ⟨hk, rfl⟩ := List.getElem?_eq_some_iff.1 h
  rw [← List.drop_eq_getElem_cons hk, List.take_append_drop]
theorem off15_succ (h : Z[k]? = some z) : off15 Z (k + 1) = off15 Z k + z.length := by
  unfold off15
  rw [List.take_add_one, h, List.flatten_append, List.length_append]
  simp
theorem flat15 (h : Z[k]? = some z) : Z.flatten = (Z.take k).flatten ++ (z ++ (Z.drop (k + 1)).flatten) := by
  conv => lhs; rw [spl15 h]
  rw [List.flatten_append, List.flatten_cons]
theorem flat15_at (h : Z[k]? = some z) (hi : i < z.length) : Z.flatten[off15 Z k + i]? = z[i]? := by
  rw [flat15 h, off15, List.getElem?_append_right (by omega), Nat.add_sub_cancel_left, List.getElem?_append_left hi]
theorem off15_le (h : Z[k]? = some z) : off15 Z k + z.length ≤ us15 Z := by
  rw [us15, flat15 h, off15, List.length_append, List.length_append]
  omega
theorem flat15_set (h : Z[k]? = some z) (hi : i < z.length) : (Z.set k (z.set i v)).flatten = Z.flatten.set (off15 Z k + i) v := by
  have hk := (List.getElem?_eq_some_iff.1 h).1
  have h1 : (Z.set k (z.set i v))[k]? = some (z.set i v) := by rw [List.getElem?_set_self hk]
  rw [flat15 h1, flat15 h, off15, List.take_set_of_le (by omega), List.drop_set, if_pos (by omega)]
  rw [List.set_append_right _ _ (by omega), Nat.add_sub_cancel_left, List.set_append_left _ _ hi]
theorem off15_set (h : Z[k]? = some z) (j : Nat) : off15 (Z.set k (z.set i v)) j = off15 Z j := by
  unfold off15
  rw [List.length_flatten, List.length_flatten]
  congr 1
  rw [List.map_take, List.map_take, List.map_set]
  congr 1
  rw [List.length_set]
  apply List.ext_getElem?
  intro t
  by_cases e : k = t
  · subst e
    have hk := (List.getElem?_eq_some_iff.1 h).1
    rw [List.getElem?_set_self (by simpa using hk), List.getElem?_map, h]
    rfl
  · rw [List.getElem?_set_ne e]
theorem us15_set (h : Z[k]? = some z) : us15 (Z.set k (z.set i v)) = us15 Z := by
  have h1 := off15_set (i := i) (v := v) h Z.length
  unfold off15 at h1
  rw [List.take_of_length_le (by simp), List.take_of_length_le (Nat.le_refl _)] at h1
  exact h1
theorem us15_snoc (z : List Int) : us15 (Z ++ [z]) = us15 Z + z.length := by
  rw [us15, us15, List.flatten_append, List.length_append]
  simp
theorem wz15_len (h : us15 Z ≤ R) : (wz15 R Z).length = R := by
  rw [wz15, List.length_append, List.length_replicate]
  unfold us15 at *
  omega
theorem wz15_at (h : Z[k]? = some z) (hi : i < z.length) : (wz15 R Z)[off15 Z k + i]? = z[i]? := by
  have := off15_le h
  rw [wz15, List.getElem?_append_left (by unfold us15 at *; omega), flat15_at h hi]
theorem wz15_set (h : Z[k]? = some z) (hi : i < z.length) : (wz15 R Z).set (off15 Z k + i) v = wz15 R (Z.set k (z.set i v)) := by
  have := off15_le h
  rw [wz15, wz15, us15_set h, flat15_set h hi, List.set_append_left _ _ (by unfold us15 at *; omega)]
theorem wz15_snoc {n : Nat} (h : us15 Z + n ≤ R) : wz15 R (Z ++ [List.replicate n 0]) = wz15 R Z := by
  rw [wz15, wz15, us15_snoc, List.flatten_append, List.flatten_singleton, List.length_replicate, List.append_assoc, List.replicate_append_replicate]
  congr 2
  omega
theorem off15_full : off15 Z Z.length = us15 Z := by
  unfold off15 us15
  rw [List.take_of_length_le (Nat.le_refl _)]
theorem off15_snoc (h : k ≤ Z.length) : off15 (Z ++ [z]) k = off15 Z k := by
  unfold off15
  rw [List.take_append_of_le_length h]
theorem row15_at (h : is15 Z r = true) : Z[r.toNat]? = some (row15 Z r) := by
  simp only [is15, Bool.and_eq_true, decide_eq_true_eq] at h
  rw [row15, if_pos h.1, List.getElem?_eq_getElem (by omega)]
  rfl
theorem row15_no (h : is15 Z r = false) : row15 Z r = [] := by
  unfold row15
  split
  · rename_i h1
    simp only [is15, Bool.and_eq_false_iff, decide_eq_false_iff_not] at h
    rw [List.getElem?_eq_none (by omega)]
    rfl
  · rfl
theorem pl15_is {i : Int} (h : pl15 Z r i = true) : is15 Z r = true := by
  simp only [pl15, Bool.and_eq_true, decide_eq_true_eq] at h
  cases hi : is15 Z r with
  | true => rfl
  | false =>
    rw [row15_no hi] at h
    simp at h
    omega
theorem pl15_lt {i : Int} (h : pl15 Z r i = true) : i.toNat < (row15 Z r).length := by
  simp only [pl15, Bool.and_eq_true, decide_eq_true_eq] at h
  omega
theorem len15_put {i : Int} : (put15 Z r i v).length = Z.length := by
  unfold put15
  split
  · simp
  · rfl
end

/-! In memory. -/
/-- Block g holds the words l, and nothing else. -/
def Wd15 (w : World) (g : Nat) (l : List Int) : Prop := w.heap[g]? = some (.cells (l.map (Value.int .i64)).toArray 2 (0, 0))
section
variable {w w' : World} {g : Nat} {l : List Int} {X : Nat → Prop}
theorem Wd15.lt (h : Wd15 w g l) : g < w.heap.size := (Array.getElem?_eq_some_iff.1 h).1
theorem Wd15.fr (h : Wd15 w g l) (hf : Fr11 X w w') (hx : ¬ X g) : Wd15 w' g l := (hf.block g h.lt hx).trans h
theorem Wd15.cell (h : Wd15 w g l) {i : Nat} {x : Int} (hi : l[i]? = some x) : w.cell? ⟨g, i, none⟩ = some (.int .i64 x) := by
  rw [cell_of_row w g i _ _ (0, 0) h]
  simp [hi]
theorem Wd15.froz (h : Wd15 w g l) (i : Nat) : w.frozen? ⟨g, i, none⟩ = false := frozen_of_row w g i _ _ h
theorem Wd15.put (h : Wd15 w g l) (j : Nat) (v : Int) : Wd15 (w.setCell ⟨g, j, none⟩ (.int .i64 v)) g (l.set j v) := by
  unfold Wd15
  rw [heap_setCell_same w g j _ _ _ h]
  congr 2
  apply Array.ext'
  simp [List.map_set]
end
theorem Try.info15 : (Try.prog.info? 2).map (fun i => (i.zero, i.size, i.bytes)) = some (some (.int .i64 0), 1, 8) := by kernel_rfl
theorem Try.infr15 : (Try.prog.info? 43).map (fun i => (i.zero, i.size, i.bytes)) = some (some (.slice none 0 0), 1, 24) := by kernel_rfl
/-- make([]int64, n). -/
theorem make15 (n : Nat) (hn : n ≤ 1000000) (w : World) : (Instr.makeSlice 43 (.int .i64 (n : Int)) (.int .i64 (n : Int))).run Try.prog w = .ok (.slice (some ⟨w.heap.size, 0, none⟩) n n) (w.alloc (.cells (Array.replicate n (.int .i64 0)) 2)) := by
  have hinfo := Try.info15
  rw [Option.map_eq_some_iff] at hinfo
  obtain ⟨i, hi, hz⟩ := hinfo
  simp only [Prod.mk.injEq] at hz
  obtain ⟨hz0, hz1, hz2⟩ := hz
  have hr := run_make (P := Try.prog) w 43 2 i (.int .i64 0) Try.underlying43 hi hz0 .i64 .i64 n n (by omega) (Int.le_refl _) (by rw [hz2]; omega) (by omega)
  rw [hr, hz1, Int.toNat_natCast, Nat.mul_one]
  have e : madeCells #[Value.int .i64 0] n = Array.replicate n (Value.int .i64 0) := by
    apply Array.ext'
    rw [toList_madeCells_one, Array.toList_replicate]
  rw [← e]
  rfl
theorem wd15_new (w : World) (n : Nat) : Wd15 (w.alloc (.cells (Array.replicate n (.int .i64 0)) 2)) w.heap.size (List.replicate n 0) := by
  have h := World.alloc_heap_new w (.cells (Array.replicate n (.int .i64 0)) 2)
  unfold Wd15
  rw [h]
  congr 2
  apply Array.ext'
  simp
/-- make([][]int64, n). -/
theorem maker15 (n : Nat) (hn : n ≤ 1000000) (w : World) : (Instr.makeSlice 42 (.int .i64 (n : Int)) (.int .i64 (n : Int))).run Try.prog w = .ok (.slice (some ⟨w.heap.size, 0, none⟩) n n) (w.alloc (.cells (Array.replicate n (.slice none 0 0)) 43)) := by
  have hinfo := Try.infr15
  rw [Option.map_eq_some_iff] at hinfo
  obtain ⟨i, hi, hz⟩ := hinfo
  simp only [Prod.mk.injEq] at hz
  obtain ⟨hz0, hz1, hz2⟩ := hz
  have hr := run_make (P := Try.prog) w 42 43 i (.slice none 0 0) Try.underlying42 hi hz0 .i64 .i64 n n (by omega) (Int.le_refl _) (by rw [hz2]; omega) (by omega)
  rw [hr, hz1, Int.toNat_natCast, Nat.mul_one]
  have e : madeCells #[Value.slice none 0 0] n = Array.replicate n (Value.slice none 0 0) := by
    apply Array.ext'
    rw [toList_madeCells_one, Array.toList_replicate]
  rw [← e]
  rfl
/-- append of one array to a row of arrays. -/
theorem app15 (w : World) (v : Value) (n : Nat) (K : List Value) (hown : w.ownsRow 0 43 1 v n K) (ad : Addr) (u : Value) (hu : u.oneCell' = true) (hc : w.cell? ad = some u) (hn : n ≤ 100000) (ty : TypeId) :
    ∃ A' c' w', (Builtin.append_ #[42, 42] ty #[v, .slice (some ad) 1 1]).run Try.prog w = .ok (.slice A' (n + 1) c') w' ∧ w'.ownsRow 0 43 1 (.slice A' (n + 1) c') (n + 1) (K ++ [u]) ∧ w.grownBy w' v.ownBlock ∧
      ((Value.slice A' (n + 1) c').ownBlock = v.ownBlock ∨ (Value.slice A' (n + 1) c').ownBlock = some w.heap.size) := by
  have hinfo := Try.infr15
  rw [Option.map_eq_some_iff] at hinfo
  obtain ⟨i, hi, hz⟩ := hinfo
  simp only [Prod.mk.injEq] at hz
  obtain ⟨hz0, hz1, hz2⟩ := hz
  obtain ⟨v', w', h1, h2, h3, -, h5⟩ := run_append_own_at (P := Try.prog) w 0 42 ty 43 i _ 1 24 Try.underlying42 hi hz0 hz1 hz2 rfl (by decide) v n K hown ad 1 1 [u] rfl
    (fun j y hj => by
      match j, hj with
      | 0, hj =>
        simp at hj
        subst hj
        simpa [Addr.add] using hc) (fun y hy => by simp at hy; subst hy; exact hu) (by unfold maxLen; omega) (by omega) (Nat.zero_le _)
  obtain ⟨A', c', rfl⟩ := own_form h2
  exact ⟨A', c', w', h1, h2, h3, h5⟩
end Go.Proofs.Ytibiocjdkndnhaa
