/-
  Layer 8: what slices.Clone answers for values, methods, bytes, instructions: the same, in memory of its own (or nil).
-/
import Derived.Test.YteimpkjpoijhmaaDoorMq
import Derived.Test.YteimpkjpoijhmaaDoorLg
import Derived.Test.YteimpkjpoijhmaaDoorLk
import Derived.ArgAppend
import Derived.Laws.Cover3
namespace Go.Proofs.YteimpkjpoijhmaaDoor
open Go.RowKit
set_option maxRecDepth 100000
set_option linter.unusedSimpArgs false
set_option linter.unusedVariables false

theorem cem_inv {Z : List Me} {j : Nat} {u : Value} (h : (cem Z)[j]? = some u) : ∃ i k z, Z[i]? = some z ∧ k < 8 ∧ j = i * 8 + k ∧ (ce8 z)[k]? = some u := by
  have hj := (List.getElem?_eq_some_iff.1 h).1
  rw [length_cem] at hj
  have hi : j / 8 < Z.length := by omega
  refine ⟨j / 8, j % 8, Z[j / 8], List.getElem?_eq_getElem hi, by omega, by omega, ?_⟩
  rw [← cem_at (List.getElem?_eq_getElem hi) (j % 8) (by omega), show j / 8 * 8 + j % 8 = j by omega]
  exact h
theorem madd (ad : Addr) (i k : Nat) (hk : 0 < k) : ad.add (i * 8 + k) = ⟨(ad.add (i * 8)).block, (ad.add (i * 8)).off + k, none⟩ := by
  unfold Addr.add
  rw [if_neg (by omega)]
  split
  · rename_i h0; simp [h0]
  · simp; omega
theorem rm_cells {w : World} {ad : Addr} {c : Nat} {L : List Me} (h : Rm w (some ad) c L) (hc : 0 < c) : ∀ j u, (cem L)[j]? = some u → w.cell? (ad.add j) = some u := by
  intro j u hj
  obtain ⟨i, k, z, hz, hk, rfl, hu⟩ := cem_inv hj
  rcases h.2.2.2 with ⟨ha, _⟩ | ⟨ad', ha, hcell⟩
  · cases ha
  · injection ha with ha
    subst ha
    obtain ⟨h1, h2, h3, h4, h5, h6, h7, h8⟩ := hcell i z hz
    match k, hk with
    | 0, _ => simp [ce8] at hu; subst hu; exact h1
    | 1, _ => simp [ce8] at hu; subst hu; rw [madd _ _ _ (by omega)]; exact h2
    | 2, _ => simp [ce8] at hu; subst hu; rw [madd _ _ _ (by omega)]; exact h3
    | 3, _ => simp [ce8] at hu; subst hu; rw [madd _ _ _ (by omega)]; exact h4
    | 4, _ => simp [ce8] at hu; subst hu; rw [madd _ _ _ (by omega)]; exact h5
    | 5, _ => simp [ce8] at hu; subst hu; rw [madd _ _ _ (by omega)]; exact h6
    | 6, _ => simp [ce8] at hu; subst hu; rw [madd _ _ _ (by omega)]; exact h7
    | 7, _ => simp [ce8] at hu; subst hu; rw [madd _ _ _ (by omega)]; exact h8
theorem cem_one2 (L : List Me) : ∀ u ∈ cem L, u.oneCell' = true := by
  intro u hu
  simp only [cem, List.mem_flatMap] at hu
  obtain ⟨x, _, hx⟩ := hu
  exact ce8_one x u hx
/-- append of a slice of methods, to a slice of the call's own. -/
theorem wpList_append_rms (w : World) {ops : Array Oper} {rest : List Oper} {o : Oper} {a : Act} {Q : Exit → Act → World → Prop} (hgd : o.guard = none) (s x : Operand)
    (ho : o.op = .call { callee := .builtin .append, args := #[s, x], argTypes := #[23, 23] })
    (base : Nat) (v : Value) (n : Nat) (K : List Me) (hs : a.eval s = v) (hown : w.ownsRow base 49 8 v n (cem K))
    (A : Option Addr) (m c : Nat) (L : List Me) (hx : a.eval x = .slice A m c) (hr : Rm w A c L) (hm : m = L.length) (hbytes : n + m ≤ 1000000) (hbase : base ≤ w.heap.size)
    (h : ∀ A' c' w', w'.ownsRow base 49 8 (.slice A' (n + m) c') (n + m) (cem (K ++ L)) → Below base w w' → wpList Tryd.prog ops Q rest (a.put o.dst (.slice A' (n + m) c')) w') : wpList Tryd.prog ops Q (o :: rest) a w := by
  have hinfo := Tryd.infoM
  rw [Option.map_eq_some_iff] at hinfo
  obtain ⟨i, hi, hz⟩ := hinfo
  simp only [Prod.mk.injEq] at hz
  obtain ⟨hz0, hz1, hz2⟩ := hz
  have hbel : ∀ {w'}, w.grownBy w' v.ownBlock → Below base w w' := fun hg => (Below.refl _ _).grown hg hbase fun g hg' => (hown.lt g hg').1
  rcases hr.2.2.2 with ⟨rfl, rfl⟩ | ⟨ad, rfl, hcell⟩
  · have h0 : L = [] := List.eq_nil_of_length_eq_zero (by have := hr.le; omega)
    subst h0
    obtain rfl : m = 0 := hm
    refine wpList_append_own_none hgd s x 23 ho base 49 i 8 Tryd.underlying23 hi v n (cem K) hs hown hx ?_
    obtain ⟨A', c', rfl⟩ := own_form hown
    have := h A' c' w (by simpa using hown) (hbel (World.grownBy.refl w _))
    simpa using this
  · by_cases hc : c = 0
    · subst hc
      have h0 : L = [] := List.eq_nil_of_length_eq_zero (by have := hr.le; omega)
      subst h0
      obtain rfl : m = 0 := hm
      refine wpList_append_own_at w hgd s x 23 ho base 49 i _ 8 104 Tryd.underlying23 hi hz0 hz1 hz2 rfl (by decide) v n (cem K) hs hown ad 0 0 [] hx rfl (fun j u hj => by cases hj) (fun u hu => by cases hu) (by unfold maxLen; omega) (by omega) hbase ?_
      intro v' w' hown' hg _ _
      obtain ⟨A', c', rfl⟩ := own_form hown'
      exact h A' c' w' (by simpa using hown') (hbel hg)
    · refine wpList_append_own_at w hgd s x 23 ho base 49 i _ 8 104 Tryd.underlying23 hi hz0 hz1 hz2 rfl (by decide) v n (cem K) hs hown ad m c (cem L) hx (by rw [length_cem, hm])
        (rm_cells hr (by omega)) (cem_one2 L) (by unfold maxLen; omega) (by omega) hbase ?_
      intro v' w' hown' hg _ _
      obtain ⟨A', c', rfl⟩ := own_form hown'
      exact h A' c' w' (by rw [cem_append]; exact hown') (hbel hg)
theorem nilV_v (w : World) (A : Option Addr) (m c : Nat) : (binOp .eql 22 (.slice A m c) (.slice none 0 0)).run Tryd.prog w = .ok (.bool A.isNone) w := by
  simp [binOp, run_equal_slice_nil w 22 67 A m c Tryd.underlying22]
theorem cloneV_v (A : Option Addr) (c m : Nat) (L : List Vlu) (w : World) (hr : Rv w A c L) (hm : L.length = m) (hl : m ≤ 1000000) : Calls Tryd.prog 56 #[.slice A m c] w fun e w' => ∃ A' c', e = .returned (.slice A' m c') ∧ w'.ownsRow w.heap.size 67 3 (.slice A' m c') m (cev L) ∧ Below w.heap.size w w' := by
  cases A with
  | none =>
    obtain rfl : c = 0 := by rcases hr.2.2.2 with ⟨_, h⟩ | ⟨_, h, _⟩; exact h; cases h
    obtain rfl : L = [] := List.eq_nil_of_length_eq_zero (by have := hr.le; omega)
    obtain rfl : m = 0 := hm.symm
    have q := fun w => nilV_v w none 0 0
    go_enter Tryd.func56, Tryd.ntmps56
    go_wp2_with fail
    go_ret
    exact ⟨none, 0, rfl, World.ownsRow_nil _ _ _ _, Below.refl _ _⟩
  | some ad =>
    have HO := Lib.hid (show (w.alloc (.cells #[] 67)).ownsRow w.heap.size 67 3 (.slice (some ⟨w.heap.size, 0, none⟩) 0 0) 0 (cev []) from
      World.ownsRow_lit (base := w.heap.size) (e := 67) (size := 3) w #[] 0 (Nat.le_refl _) (by unfold maxLen; simp) (by simp))
    have HR := Lib.hid (hr.keep (new1 (a := .cells #[] 67)))
    clear hr
    have q := fun w => nilV_v w (some ad) m c
    go_enter Tryd.func56, Tryd.ntmps56
    go_wp2_with (at_builtin; refine wpList_append_rv _ rfl (.tmp 5) (.tmp 6) rfl w.heap.size _ 0 [] rfl HO.out (some ad) m c L rfl HR.out hm.symm (by omega) (by simp) ?_)
    intro A' c' w1 ho hb
    have HO1 := Lib.hid ho
    have HB := Lib.hid (new1.trans hb)
    clear ho hb
    go_wp2_with fail
    go_ret
    exact ⟨A', c', rfl, by simpa using HO1.out, HB.out⟩
theorem nilM_v (w : World) (A : Option Addr) (m c : Nat) : (binOp .eql 23 (.slice A m c) (.slice none 0 0)).run Tryd.prog w = .ok (.bool A.isNone) w := by
  simp [binOp, run_equal_slice_nil w 23 49 A m c Tryd.underlying23]
theorem cloneM_v (A : Option Addr) (c m : Nat) (L : List Me) (w : World) (hr : Rm w A c L) (hm : L.length = m) (hl : m ≤ 1000000) : Calls Tryd.prog 57 #[.slice A m c] w fun e w' => ∃ A' c', e = .returned (.slice A' m c') ∧ w'.ownsRow w.heap.size 49 8 (.slice A' m c') m (cem L) ∧ Below w.heap.size w w' := by
  cases A with
  | none =>
    obtain rfl : c = 0 := by rcases hr.2.2.2 with ⟨_, h⟩ | ⟨_, h, _⟩; exact h; cases h
    obtain rfl : L = [] := List.eq_nil_of_length_eq_zero (by have := hr.le; omega)
    obtain rfl : m = 0 := hm.symm
    have q := fun w => nilM_v w none 0 0
    go_enter Tryd.func57, Tryd.ntmps57
    go_wp2_with fail
    go_ret
    exact ⟨none, 0, rfl, World.ownsRow_nil _ _ _ _, Below.refl _ _⟩
  | some ad =>
    have HO := Lib.hid (show (w.alloc (.cells #[] 49)).ownsRow w.heap.size 49 8 (.slice (some ⟨w.heap.size, 0, none⟩) 0 0) 0 (cem []) from
      World.ownsRow_lit (base := w.heap.size) (e := 49) (size := 8) w #[] 0 (Nat.le_refl _) (by unfold maxLen; simp) (by simp))
    have HR := Lib.hid (hr.keep (new1 (a := .cells #[] 49)))
    clear hr
    have q := fun w => nilM_v w (some ad) m c
    go_enter Tryd.func57, Tryd.ntmps57
    go_wp2_with (at_builtin; refine wpList_append_rms _ rfl (.tmp 5) (.tmp 6) rfl w.heap.size _ 0 [] rfl HO.out (some ad) m c L rfl HR.out hm.symm (by omega) (by simp) ?_)
    intro A' c' w1 ho hb
    have HO1 := Lib.hid ho
    have HB := Lib.hid (new1.trans hb)
    clear ho hb
    go_wp2_with fail
    go_ret
    exact ⟨A', c', rfl, by simpa using HO1.out, HB.out⟩
theorem nilI_v (w : World) (A : Option Addr) (m c : Nat) : (binOp .eql 47 (.slice A m c) (.slice none 0 0)).run Tryd.prog w = .ok (.bool A.isNone) w := by
  simp [binOp, run_equal_slice_nil w 47 86 A m c Tryd.underlying47]
theorem cloneI_v (A : Option Addr) (c m : Nat) (L : List Ins) (w : World) (hr : Ri w A c L) (hm : L.length = m) (hl : m ≤ 1000000) : Calls Tryd.prog 59 #[.slice A m c] w fun e w' => ∃ A' c', e = .returned (.slice A' m c') ∧ w'.ownsRow w.heap.size 86 3 (.slice A' m c') m (cei L) ∧ Below w.heap.size w w' := by
  cases A with
  | none =>
    obtain rfl : c = 0 := by rcases hr.2.2.2 with ⟨_, h⟩ | ⟨_, h, _⟩; exact h; cases h
    obtain rfl : L = [] := List.eq_nil_of_length_eq_zero (by have := hr.le; omega)
    obtain rfl : m = 0 := hm.symm
    have q := fun w => nilI_v w none 0 0
    go_enter Tryd.func59, Tryd.ntmps59
    go_wp2_with fail
    go_ret
    exact ⟨none, 0, rfl, World.ownsRow_nil _ _ _ _, Below.refl _ _⟩
  | some ad =>
    have HO := Lib.hid (show (w.alloc (.cells #[] 86)).ownsRow w.heap.size 86 3 (.slice (some ⟨w.heap.size, 0, none⟩) 0 0) 0 (cei []) from
      World.ownsRow_lit (base := w.heap.size) (e := 86) (size := 3) w #[] 0 (Nat.le_refl _) (by unfold maxLen; simp) (by simp))
    have HR := Lib.hid (hr.keep (new1 (a := .cells #[] 86)))
    clear hr
    have q := fun w => nilI_v w (some ad) m c
    go_enter Tryd.func59, Tryd.ntmps59
    go_wp2_with (at_builtin; refine wpList_append_ri _ rfl (.tmp 5) (.tmp 6) rfl w.heap.size _ 0 [] rfl HO.out (some ad) m c L rfl HR.out hm.symm (by omega) (by simp) ?_)
    intro A' c' w1 ho hb
    have HO1 := Lib.hid ho
    have HB := Lib.hid (new1.trans hb)
    clear ho hb
    go_wp2_with fail
    go_ret
    exact ⟨A', c', rfl, by simpa using HO1.out, HB.out⟩
theorem nilB_v (w : World) (A : Option Addr) (m c : Nat) : (binOp .eql 28 (.slice A m c) (.slice none 0 0)).run Tryd.prog w = .ok (.bool A.isNone) w := by
  simp [binOp, run_equal_slice_nil w 28 5 A m c Tryd.underlying28]
theorem cloneB_v (A : Option Addr) (c m : Nat) (L : List Int) (w : World) (hr : Rd w A c L) (hm : L.length = m) (hl : m ≤ 1000000) : Calls Tryd.prog 58 #[.slice A m c] w fun e w' => ∃ A' c', e = .returned (.slice A' m c') ∧ w'.ownsRow w.heap.size 5 1 (.slice A' m c') m (cel L) ∧ Below w.heap.size w w' := by
  cases A with
  | none =>
    obtain rfl : c = 0 := by rcases hr.2.2.2 with ⟨_, h⟩ | ⟨_, h, _⟩; exact h; cases h
    obtain rfl : L = [] := List.eq_nil_of_length_eq_zero (by have := hr.le; omega)
    obtain rfl : m = 0 := hm.symm
    have q := fun w => nilB_v w none 0 0
    go_enter Tryd.func58, Tryd.ntmps58
    go_wp2_with fail
    go_ret
    exact ⟨none, 0, rfl, World.ownsRow_nil _ _ _ _, Below.refl _ _⟩
  | some ad =>
    have HO := Lib.hid (show (w.alloc (.cells #[] 5)).ownsRow w.heap.size 5 1 (.slice (some ⟨w.heap.size, 0, none⟩) 0 0) 0 (cel []) from
      World.ownsRow_lit (base := w.heap.size) (e := 5) (size := 1) w #[] 0 (Nat.le_refl _) (by unfold maxLen; simp) (by simp))
    have HR := Lib.hid (hr.keep (new1 (a := .cells #[] 5)))
    clear hr
    have q := fun w => nilB_v w (some ad) m c
    go_enter Tryd.func58, Tryd.ntmps58
    go_wp2_with (at_builtin; obtain ⟨i0, hi, hz0, hz1, hz2⟩ := info_parts Tryd.info5; refine wpList_append_rd _ rfl (.tmp 5) (.tmp 6) 28 rfl w.heap.size 5 i0 Tryd.underlying28 hi hz0 hz1 hz2 _ 0 [] rfl HO.out (some ad) m c L rfl HR.out hm.symm (by omega) (by simp) ?_)
    intro A' c' w1 ho hg hb _
    have HO1 := Lib.hid ho
    have HB := Lib.hid (new1.trans hb)
    clear ho hg hb
    go_wp2_with fail
    go_ret
    exact ⟨A', c', rfl, by simpa using HO1.out, HB.out⟩
end Go.Proofs.YteimpkjpoijhmaaDoor
