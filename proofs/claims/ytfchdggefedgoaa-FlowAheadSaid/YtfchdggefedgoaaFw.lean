/-
  The law's flows: the times of code that flows well, if they come to no more than 20,000.
-/
import Derived.Test.YtfchdggefedgoaaFk
namespace Go.Proofs.Ytfchdggefedgoaa
open Go.RowKit
set_option maxRecDepth 100000
set_option linter.unusedSimpArgs false
set_option linter.unusedVariables false

theorem pr9_bd : ∀ (xs : List Lp), (∀ x ∈ xs, 1 ≤ K9 x ∧ K9 x ≤ 100) → 1 ≤ pr9 xs ∧ pr9 xs ≤ 100 ^ xs.length
  | [], _ => by simp [pr9]
  | x :: xs, h => by
    obtain ⟨a, b⟩ := h x List.mem_cons_self
    obtain ⟨c, d⟩ := pr9_bd xs (fun y hy => h y (List.mem_cons_of_mem _ hy))
    rw [pr9, List.length_cons, Nat.pow_succ]
    have e1 : 1 * 1 ≤ K9 x * pr9 xs := Nat.mul_le_mul a c
    have e2 : K9 x * pr9 xs ≤ 100 * 100 ^ xs.length := Nat.mul_le_mul b d
    omega
theorem lq9_four {l : List Ins} (h : flE9 l = 0) {p : Nat} (hp : p < l.length) : (lq9 (lpU9 l l.length) p).length ≤ 4 := by
  obtain ⟨-, -, hns, -⟩ := flE9_zero h
  rw [ns9, Bool.and_eq_true, List.all_eq_true, List.all_eq_true] at hns
  have := hns.2 p (List.mem_range.2 hp)
  simpa using this
theorem tm9_bd {l : List Ins} (h : flE9 l = 0) {p : Nat} (hp : p < l.length) : 1 ≤ tm9 (lpU9 l l.length) p ∧ tm9 (lpU9 l l.length) p ≤ 100000000 := by
  have hw := wl9 h
  rw [tm9_pr hw]
  obtain ⟨a, b⟩ := pr9_bd (lq9 (lpU9 l l.length) p) (fun x hx => by
    have := (hw.mem x (mem_lq9.1 hx).1).2.2.2.2.2.2
    unfold K9
    omega)
  have c : (100 : Nat) ^ (lq9 (lpU9 l l.length) p).length ≤ 100 ^ 4 := Nat.pow_le_pow_right (by omega) (lq9_four h hp)
  omega
theorem flT9_zero {l : List Ins} (h : flE9 l = 0) : (flT9 l).length = l.length ∧ ∀ p, p < l.length → (flT9 l)[p]? = some (tm9 (lpU9 l l.length) p) := by
  rw [flT9, if_pos h]
  refine ⟨by simp, fun p hp => ?_⟩
  rw [List.getElem?_map, List.getElem?_range hp]
  rfl
/-- Do the times come to no more than 20,000? -/
def fs9 (l : List Ins) : Bool := decide (flE9 l = 0) && decide ((flT9 l).sum ≤ 20000)
def fsT9 (l : List Ins) : List Int := if fs9 l = true then flT9 l else []
theorem sum_take_le {T : List Int} (h : ∀ x ∈ T, 0 ≤ x) (j : Nat) : (T.take j).sum ≤ T.sum ∧ 0 ≤ (T.take j).sum := by
  induction T generalizing j with
  | nil => simp
  | cons x T ih =>
    have hx := h x List.mem_cons_self
    cases j with
    | zero =>
      have := (ih (fun y hy => h y (List.mem_cons_of_mem _ hy)) 0).1
      simp at this ⊢
      omega
    | succ j =>
      have := ih (fun y hy => h y (List.mem_cons_of_mem _ hy)) j
      simp only [List.take_succ_cons, List.sum_cons]
      omega
/-- What the law's flows tells. -/
def Fw9 (w w' : World) (L : List Ins) (fv : Bool) (ft : List Int) (r : Ending) : Prop := ∃ A' c', r = .returned (.tuple #[.slice A' ft.length c', .bool fv]) ∧ (fv = true → ∃ g, A' = some ⟨g, 0, none⟩ ∧ Cl9 w' g (ci9 (flT9 L))) ∧ Below w.heap.size w w'
set_option maxHeartbeats 4000000 in
theorem flows9_v (KT : KFTimes) (A : Option Addr) (c m : Nat) (L : List Ins) (w : World) (hr : Ri w A c L) (hm : L.length = m) :
    Calls Try.prog 19 #[.slice A m c] w fun r w' => Fw9 w w' L (fs9 L) (fsT9 L) r := by
  have HR := Lib.hid hr
  have hml : m ≤ 9223372036854775807 := by have := hr.len; omega
  clear hr
  have no : flE9 L ≠ 0 → fs9 L = false := fun h => by rw [fs9, decide_eq_false h]; rfl
  have NO := Lib.hid no
  clear no
  by_cases h3 : 300 < m
  · have HN : Hid (fs9 L = false ∧ fsT9 L = []) := by
      have h1 : flE9 L ≠ 0 := fun h => by
        have := (codM_all (flE9_zero h).1).2.1
        omega
      exact ⟨NO.out h1, by rw [fsT9, NO.out h1]; rfl⟩
    generalize fs9 L = fv at HN ⊢
    generalize fsT9 L = ft at HN ⊢
    go_enter Try.func19, Try.ntmps19
    go_wp2_with fail
    go_ret2
    refine ⟨none, 0, ?_, fun h => ?_, Below.refl _ _⟩
    · rw [HN.out.1, HN.out.2]; rfl
    · rw [HN.out.1] at h; cases h
  · have PT := Lib.hid (KT A c m L w HR.out hm (by omega))
    obtain ⟨e, he⟩ : ∃ e, flE9 L = e := ⟨_, rfl⟩
    have HE := Lib.hid he
    rw [he] at PT
    clear he
    by_cases h0 : e = 0
    · subst h0
      have HZ := Lib.hid (flT9_zero HE.out)
      have HBD : Hid (∀ x ∈ flT9 L, 1 ≤ x ∧ x ≤ 100000000) := Lib.hid fun x hx => by
        obtain ⟨i, hi, rfl⟩ := List.getElem_of_mem hx
        have h1 := HZ.out.2 i (by rw [← HZ.out.1]; exact hi)
        rw [List.getElem?_eq_getElem hi] at h1
        injection h1 with h1
        rw [h1]
        exact tm9_bd HE.out (by rw [← HZ.out.1]; exact hi)
      have HLT : Hid ((flT9 L).length = m ∧ 1 ≤ m) := Lib.hid ⟨by rw [HZ.out.1, hm], by have := (codM_all (flE9_zero HE.out).1).1; omega⟩
      have HFS : Hid (fs9 L = decide ((flT9 L).sum ≤ 20000) ∧ fsT9 L = if (flT9 L).sum ≤ 20000 then flT9 L else []) := by
        have a : fs9 L = decide ((flT9 L).sum ≤ 20000) := by rw [fs9, HE.out]; rfl
        refine ⟨a, ?_⟩
        rw [fsT9, a]
        by_cases h : (flT9 L).sum ≤ 20000 <;> simp [h]
      obtain ⟨T, hT⟩ : ∃ T, flT9 L = T := ⟨_, rfl⟩
      have HTT := Lib.hid hT
      rw [hT] at PT HZ HBD HLT HFS
      generalize fs9 L = fv at HFS ⊢
      generalize fsT9 L = ft at HFS ⊢
      clear HZ hT HE NO hm
      have HLm := Lib.hid HLT.out.1
      have hm1 := HLT.out.2
      go_enter Try.func19, Try.ntmps19
      go_wp2_with fail
      refine PT.out.mono ?_
      rintro r w1 ⟨A1, c1, rfl, ho, hb⟩
      obtain ⟨g, rfl, hcl⟩ := Cl9.of_own ho (by rw [HLm.out]; exact hm1)
      have HC := Lib.hid hcl
      have HB := Lib.hid hb
      rw [HLm.out]
      have hcap : m ≤ c1 := by
        have := (Rn.of_own ho).1.1
        rw [HLm.out] at this
        exact this
      clear ho hb hcl PT
      go_wp2_with fail
      go_loopw [6, 7] (fun s i wr => ∃ (j : Nat) (S : Int), j ≤ m ∧ i = .int .i64 j ∧ s = .int .i64 S ∧ wr = w1 ∧ Hid (S = (T.take j).sum) ∧ (0 ≤ S ∧ S ≤ 20000)) (fun _ i _ => m - (intOf i).toNat)
      case atStart => exact ⟨0, 0, by omega, rfl, rfl, rfl, Lib.hid (by simp), by omega, by omega⟩
      case round =>
        obtain ⟨j, S, hj, rfl, rfl, rfl, HS, hS0, hS1⟩ := hrel
        by_cases h1 : j < m
        · obtain ⟨x, hx⟩ : ∃ x, T[j]? = some x := ⟨_, List.getElem?_eq_getElem (by rw [HLm.out]; exact h1)⟩
          have hxb := HBD.out x (List.mem_of_getElem? hx)
          have k0 := HC.out.2 j (.int .i64 x) (by simp [ci9, hx])
          have hwr : IntKind.i64.wrap (S + x) = S + x := by
            simp [IntKind.wrap, IntKind.signed, IntKind.bits, go_sem]
            omega
          have HS2 : Hid (S + x = (T.take (j + 1)).sum) := by
            rw [Hid, List.take_add_one, hx, List.sum_append, HS.out]
            simp
          clear hx
          by_cases h2 : 20000 < S + x
          · have HN : Hid (20000 < T.sum) := by
              have := (sum_take_le (T := T) (fun y hy => by have := (HBD.out y hy).1; omega) (j + 1)).1
              have h3 := HS2.out
              rw [Hid]
              omega
            go_wp2_with fail
            go_ret2
            refine ⟨none, 0, ?_, fun h => ?_, HB.out⟩
            · rw [HFS.out.1, HFS.out.2, if_neg (Int.not_le.2 HN.out), decide_eq_false (Int.not_le.2 HN.out)]; rfl
            · rw [HFS.out.1, decide_eq_false (Int.not_le.2 HN.out)] at h; cases h
          · go_wp2_with fail
            go_roundw
            case rel => exact ⟨j + 1, S + x, by omega, by go_num, rfl, (by first | trivial | rfl), HS2, by omega, by omega⟩
            case measure => simp [intOf]; omega
        · obtain rfl : j = m := by omega
          have HN : Hid (T.sum ≤ 20000) := by
            have h2 := HS.out
            rw [List.take_of_length_le (by rw [HLm.out]; omega)] at h2
            rw [Hid, ← h2]
            exact hS1
          go_wp2_with fail
          go_ret2
          refine ⟨some ⟨g, 0, none⟩, c1, ?_, fun _ => ⟨g, rfl, by rw [HTT.out]; exact HC.out⟩, HB.out⟩
          rw [HFS.out.1, HFS.out.2, if_pos HN.out, decide_eq_true HN.out, HLm.out]
          try simp
    · have hne : (e != 0) = true := by simpa using h0
      have HN : Hid (fs9 L = false ∧ fsT9 L = []) := by
        have h1 : flE9 L ≠ 0 := by rw [HE.out]; exact h0
        exact ⟨NO.out h1, by rw [fsT9, NO.out h1]; rfl⟩
      generalize fs9 L = fv at HN ⊢
      generalize fsT9 L = ft at HN ⊢
      go_enter Try.func19, Try.ntmps19
      go_wp2_with fail
      refine PT.out.mono ?_
      rintro r w1 ⟨A1, c1, rfl, ho, hb⟩
      have HB := Lib.hid hb
      clear ho hb PT
      go_wp2_with fail
      go_ret2
      refine ⟨none, 0, ?_, fun h => ?_, HB.out⟩
      · rw [HN.out.1, HN.out.2]; rfl
      · rw [HN.out.1] at h; cases h
end Go.Proofs.Ytfchdggefedgoaa
