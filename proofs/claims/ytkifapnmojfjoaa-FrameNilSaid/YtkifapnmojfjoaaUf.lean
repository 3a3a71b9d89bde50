/-
  Layer 16: the reference's New.
-/
import Derived.Test.YtkifapnmojfjoaaUe
namespace Go.Proofs.Ytkifapnmojfjoaa
open Go.RowKit
set_option maxRecDepth 100000
set_option linter.unusedSimpArgs false
set_option linter.unusedVariables false

/-- What New answers. -/
def Nw16 (w w' : World) (a b : List Int) (v : List Vlu) (e : Ending) : Prop := Below w.heap.size w w' ∧
  ((nB16 a b v = false ∧ e = .returned (.tuple #[.pointer none, .int .i64 2])) ∨ (nB16 a b v = true ∧ ∃ B X, e = .returned (.tuple #[.pointer (some ⟨B, 0, none⟩), .int .i64 0]) ∧ Rf16 X w' B (nF16 b v) ∧ ∀ j, X j → w.heap.size ≤ j))
theorem nB16_no {a b : List Int} {v : List Vlu} (h : ¬ (a.length = v.length ∧ a.length + b.length ≤ 16 ∧ a.all kd16 = true ∧ v.map (·.1) = a ∧ b.all kd16 = true)) : nB16 a b v = false := by
  cases hn : nB16 a b v with
  | false => rfl
  | true =>
    simp only [nB16, Bool.and_eq_true, decide_eq_true_eq] at hn
    exact absurd ⟨hn.1.1.1.1, hn.1.1.1.2, hn.1.1.2, hn.1.2, hn.2⟩ h
set_option maxHeartbeats 16000000 in
theorem rnew16_v (A1 A2 A3 : Option Addr) (c1 c2 c3 n1 n2 n3 : Nat) (a b : List Int) (v : List Vlu) (w : World) (ha : Rd w A1 c1 a) (hb : Rd w A2 c2 b) (hv : Rv w A3 c3 v) (h1 : a.length = n1) (h2 : b.length = n2) (h3 : v.length = n3) :
    Calls Try.prog 8 #[.slice A1 n1 c1, .slice A2 n2 c2, .slice A3 n3 c3] w fun e w' => Nw16 w w' a b v e := by
  have hl1 := ha.len
  have hl2 := hb.len
  have hl3 := hv.len
  rw [h1] at hl1
  rw [h2] at hl2
  rw [h3] at hl3
  have HA := Lib.hid ha
  have HB := Lib.hid hb
  have HVV := Lib.hid hv
  have H1 := Lib.hid h1
  have H2 := Lib.hid h2
  have H3 := Lib.hid h3
  clear ha hb hv h1 h2 h3
  by_cases g1 : n1 = n3
  · by_cases g2 : 16 < n1
    · have HN : Hid (nB16 a b v = false) := Lib.hid (nB16_no fun h => by have := h.2.1; rw [H1.out] at this; omega)
      subst g1
      go_enter Try.func8, Try.ntmps8
      go_wp2_with fail
      go_ret2
      exact ⟨Below.refl _ _, .inl ⟨HN.out, rfl⟩⟩
    · by_cases g3 : 16 < n2
      · have HN : Hid (nB16 a b v = false) := Lib.hid (nB16_no fun h => by have := h.2.1; rw [H2.out] at this; omega)
        subst g1
        go_enter Try.func8, Try.ntmps8
        go_wp2_with fail
        go_ret2
        exact ⟨Below.refl _ _, .inl ⟨HN.out, rfl⟩⟩
      · by_cases g4 : 16 < n1 + n2
        · have HN : Hid (nB16 a b v = false) := Lib.hid (nB16_no fun h => by have := h.2.1; rw [H1.out, H2.out] at this; omega)
          subst g1
          go_enter Try.func8, Try.ntmps8
          go_wp2_with fail
          go_ret2
          exact ⟨Below.refl _ _, .inl ⟨HN.out, rfl⟩⟩
        · subst g1
          have g5 : n1 ≤ 16 := by omega
          have g6 : n2 ≤ 16 := by omega
          have g7 : n1 + n2 ≤ 16 := by omega
          clear hl1 hl2 hl3
          go_enter Try.func8, Try.ntmps8
          go_wp2_with fail
          have hB0 := World.alloc_heap_new w (.cells #[.slice none 0 0, .slice none 0 0, .int .i64 0, .slice none 0 0] 40)
          have HB0 : Hid (Below w.heap.size w (w.alloc (.cells #[.slice none 0 0, .slice none 0 0, .int .i64 0, .slice none 0 0] 40))) := Lib.hid ((Below.refl _ _).alloc (Nat.le_refl _) _)
          have HI0 : Hid (Rf16 (fun j => j = w.heap.size) (w.alloc (.cells #[.slice none 0 0, .slice none 0 0, .int .i64 0, .slice none 0 0] 40)) w.heap.size ⟨v.take 0, [], 0, fun _ => 0, 0⟩) := Lib.hid ⟨none, none, none, 0, 0, 0, [], ⟨hB0, World.ownsRow_nil _ _ _ _, World.ownsRow_nil _ _ _ _, World.ownsRow_nil _ _ _ _, fun a a2 h => (by cases h), fun x hx => (by cases hx), by simp [n16], by simp, fun x hx => (by cases hx), fun y => rfl, Nat.le_refl _⟩, rfl, fun a h => (by cases h), fun a h => (by cases h), fun a h => (by cases h), fun j hj => by rw [hj]; exact (Array.getElem?_eq_some_iff.1 hB0).1⟩
          generalize (w.alloc (.cells #[.slice none 0 0, .slice none 0 0, .int .i64 0, .slice none 0 0] 40)) = w1 at HB0 HI0 ⊢
          clear hB0
          obtain ⟨B, hBe⟩ : ∃ B, w.heap.size = B := ⟨_, rfl⟩
          have HBE := Lib.hid hBe
          rw [hBe] at HI0 ⊢
          have HXI : Hid (∀ j, (fun j => j = B) j → w.heap.size ≤ j) := Lib.hid (fun j hj => by rw [HBE.out]; exact Nat.le_of_eq hj.symm)
          clear hBe
          go_loopw [9] (fun iv wr => ∃ (i : Nat) (X : Nat → Prop), i ≤ n1 ∧ iv = .int .i64 i ∧ Hid (Rf16 X wr B ⟨v.take i, [], 0, fun _ => 0, 0⟩) ∧ Hid (∀ j, X j → w.heap.size ≤ j) ∧ Hid (Below w.heap.size w wr) ∧ Hid ((a.take i).all kd16 = true ∧ (v.take i).map (·.1) = a.take i)) (fun iv _ => n1 - (intOf iv).toNat)
          case atStart => exact ⟨0, _, by omega, rfl, HI0, HXI, HB0, Lib.hid ⟨rfl, rfl⟩⟩
          case round =>
            clear HI0 HXI HB0
            obtain ⟨i, X, hi, rfl, HRF, XL, HBW, HOK⟩ := hrel
            rename World => wr
            by_cases h1 : i < n1
            · have hia : i < a.length := by rw [H1.out]; exact h1
              have hiv : i < v.length := by rw [H3.out]; exact h1
              obtain ⟨ad, hA1, a0w⟩ := HA.out.at_ hia
              subst hA1
              obtain ⟨ad3, hA3, q0w, q1w, q2w⟩ := HVV.out.at_ hiv
              subst hA3
              obtain ⟨y, hy⟩ : ∃ y, a[i]? = some y := ⟨_, List.getElem?_eq_getElem hia⟩
              rw [hy, Option.getD_some] at a0w
              obtain ⟨⟨v0, v1, v2⟩, hvi⟩ : ∃ z, v[i] = z := ⟨_, rfl⟩
              rw [hvi] at q0w q1w q2w
              dsimp only at q0w q1w q2w
              have HV : Hid (VlOk (v0, v1, v2)) := Lib.hid (by rw [← hvi]; exact HVV.out.1 _ (List.getElem_mem hiv))
              have HVT : Hid (v.take (i + 1) = v.take i ++ [(v0, v1, v2)]) := Lib.hid (by rw [List.take_add_one, List.getElem?_eq_getElem hiv, hvi]; rfl)
              have HAT : Hid (a.take (i + 1) = a.take i ++ [y]) := Lib.hid (by rw [List.take_add_one, hy]; rfl)
              have HYM : Hid (y ∈ a) := Lib.hid (List.mem_of_getElem? hy)
              have HVA : Hid ((v.map (·.1))[i]? = some v0) := Lib.hid (by rw [List.getElem?_map, List.getElem?_eq_getElem hiv, hvi]; rfl)
              have HYI := Lib.hid hy
              have K := fun {p : Addr} {u : Value} (h : w.cell? p = some u) => (HBW.out.cell (cell_lt h)).trans h
              have a0 := K a0w
              have q0 := K q0w
              have q1 := K q1w
              have q2 := K q2w
              have q0w := Lib.hid q0w
              have q1w := Lib.hid q1w
              have q2w := Lib.hid q2w
              have a0w := Lib.hid a0w
              clear hy hvi K hia hiv
              have HK : ∀ wz : World, Hid (Calls Try.prog 24 #[.int .u8 y] wz fun e w' => e = .returned (.bool (kd16 y)) ∧ w' = wz) := fun wz => Lib.hid (rkind_v y wz)
              have HK := HK wr.drew
              cases hk : kd16 y with
              | false =>
                have HN : Hid (nB16 a b v = false) := Lib.hid (nB16_no fun h => by have := List.all_eq_true.1 h.2.2.1 y HYM.out; rw [hk] at this; cases this)
                rw [hk] at HK
                clear hk
                go_upto_region 7 with (fail)
                refine wp_region_held_drew (S := fun w' => w'.cell? (ad.add i) = some (.int .u8 y) ∧ w'.cell? (ad3.add (i * 3)) = some (.int .u8 v0)) (by kernel_rfl) (⟨a0, q0⟩) (fun hHeld => ?_)
                refine wpAnyH_take (i := 0) (v := ?_) rfl (by kernel_rfl) (by kernel_rfl) (by kernel_rfl) (fun _ _ _ h => h) (Or.inl ⟨by rfl, ?_⟩) (by assumption) ?_
                rotate_left 1
                · intro w _; go_simp; try with_reducible rfl
                try simp only [Act.put, List.getElem_toArray, List.getElem_cons_zero, List.getElem_cons_succ, List.setIfInBounds_toArray, List.set_cons_zero, List.set_cons_succ]
                refine wpAnyH_take (i := 1) (v := ?_) rfl (by kernel_rfl) (by kernel_rfl) (by kernel_rfl) (fun _ _ _ h => h) (Or.inl ⟨by rfl, ?_⟩) (by assumption) ?_
                rotate_left 1
                · intro w _; go_simp; try with_reducible rfl
                try simp only [Act.put, List.getElem_toArray, List.getElem_cons_zero, List.getElem_cons_succ, List.setIfInBounds_toArray, List.set_cons_zero, List.set_cons_succ]
                refine wpAnyH_take (i := 2) (v := ?_) rfl (by kernel_rfl) (by kernel_rfl) (by kernel_rfl) (fun _ _ _ h => h) (Or.inl ⟨by rfl, ?_⟩) (by assumption) ?_
                rotate_left 1
                · intro w _; go_simp; try with_reducible rfl
                try simp only [Act.put, List.getElem_toArray, List.getElem_cons_zero, List.getElem_cons_succ, List.setIfInBounds_toArray, List.set_cons_zero, List.set_cons_succ]
                refine wpAnyH_take (i := 3) (v := ?_) rfl (by kernel_rfl) (by kernel_rfl) (by kernel_rfl) (fun _ _ _ h => h) (Or.inl ⟨by rfl, ?_⟩) (by assumption) ?_
                rotate_left 1
                · intro w hSw; (try dsimp only at hSw); obtain ⟨s1, s2⟩ := hSw; go_simp; try with_reducible rfl
                try simp only [Act.put, List.getElem_toArray, List.getElem_cons_zero, List.getElem_cons_succ, List.setIfInBounds_toArray, List.set_cons_zero, List.set_cons_succ]
                refine wpAnyH_ready (rs := [4]) (by kernel_rfl) (by simp) ?_
                refine AllReadyH.cons rfl (fun K hK => ?_) AllReadyH.nil
                go_simp
                refine HK.out.mono ?_
                rintro e w5 ⟨rfl, rfl⟩
                go_wp2_with fail
                refine hK.out _ _ (⟨a0, q0⟩) (fun hHeld => ?_)
                clear hK K
                try simp only [Act.put, List.getElem_toArray, List.getElem_cons_zero, List.getElem_cons_succ, List.setIfInBounds_toArray, List.set_cons_zero, List.set_cons_succ]
                refine wpAnyH_take (i := 5) (v := ?_) rfl (by kernel_rfl) (by kernel_rfl) (by kernel_rfl) (fun _ _ _ h => h) (Or.inl ⟨by rfl, ?_⟩) (by assumption) ?_
                rotate_left 1
                · intro w _; go_simp; try with_reducible rfl
                try simp only [Act.put, List.getElem_toArray, List.getElem_cons_zero, List.getElem_cons_succ, List.setIfInBounds_toArray, List.set_cons_zero, List.set_cons_succ]
                refine wpAnyH_take (i := 6) (v := ?_) rfl (by kernel_rfl) (by kernel_rfl) (by kernel_rfl) (fun _ _ _ h => h) (Or.inl ⟨by rfl, ?_⟩) (by assumption) ?_
                rotate_left 1
                · intro w _; go_simp; try with_reducible rfl
                try simp only [Act.put, List.getElem_toArray, List.getElem_cons_zero, List.getElem_cons_succ, List.setIfInBounds_toArray, List.set_cons_zero, List.set_cons_succ]
                refine wpAnyH_take (i := 7) (v := undef) rfl (by kernel_rfl) (by kernel_rfl) (by kernel_rfl) (fun _ _ _ h => h) (Or.inr ⟨by rfl, rfl⟩) (by assumption) ?_
                try simp only [Act.put, List.getElem_toArray, List.getElem_cons_zero, List.getElem_cons_succ, List.setIfInBounds_toArray, List.set_cons_zero, List.set_cons_succ]
                refine wpAnyH_take (i := 8) (v := undef) rfl (by kernel_rfl) (by kernel_rfl) (by kernel_rfl) (fun _ _ _ h => h) (Or.inr ⟨by rfl, rfl⟩) (by assumption) ?_
                try simp only [Act.put, List.getElem_toArray, List.getElem_cons_zero, List.getElem_cons_succ, List.setIfInBounds_toArray, List.set_cons_zero, List.set_cons_succ]
                refine wpAnyH_take (i := 9) (v := undef) rfl (by kernel_rfl) (by kernel_rfl) (by kernel_rfl) (fun _ _ _ h => h) (Or.inr ⟨by rfl, rfl⟩) (by assumption) ?_
                try simp only [Act.put, List.getElem_toArray, List.getElem_cons_zero, List.getElem_cons_succ, List.setIfInBounds_toArray, List.set_cons_zero, List.set_cons_succ]
                refine wpAnyH_take (i := 10) (v := undef) rfl (by kernel_rfl) (by kernel_rfl) (by kernel_rfl) (fun _ _ _ h => h) (Or.inr ⟨by rfl, rfl⟩) (by assumption) ?_
                try simp only [Act.put, List.getElem_toArray, List.getElem_cons_zero, List.getElem_cons_succ, List.setIfInBounds_toArray, List.set_cons_zero, List.set_cons_succ]
                refine wpAnyH_take (i := 11) (v := undef) rfl (by kernel_rfl) (by kernel_rfl) (by kernel_rfl) (fun _ _ _ h => h) (Or.inr ⟨by rfl, rfl⟩) (by assumption) ?_
                try simp only [Act.put, List.getElem_toArray, List.getElem_cons_zero, List.getElem_cons_succ, List.setIfInBounds_toArray, List.set_cons_zero, List.set_cons_succ]
                refine wpAnyH_take (i := 12) (v := undef) rfl (by kernel_rfl) (by kernel_rfl) (by kernel_rfl) (fun _ _ _ h => h) (Or.inr ⟨by rfl, rfl⟩) (by assumption) ?_
                try simp only [Act.put, List.getElem_toArray, List.getElem_cons_zero, List.getElem_cons_succ, List.setIfInBounds_toArray, List.set_cons_zero, List.set_cons_succ]
                refine wpAnyH_take (i := 13) (v := undef) rfl (by kernel_rfl) (by kernel_rfl) (by kernel_rfl) (fun _ _ _ h => h) (Or.inr ⟨by rfl, rfl⟩) (by assumption) ?_
                try simp only [Act.put, List.getElem_toArray, List.getElem_cons_zero, List.getElem_cons_succ, List.setIfInBounds_toArray, List.set_cons_zero, List.set_cons_succ]
                refine wpAnyH_take (i := 14) (v := undef) rfl (by kernel_rfl) (by kernel_rfl) (by kernel_rfl) (fun _ _ _ h => h) (Or.inr ⟨by rfl, rfl⟩) (by assumption) ?_
                try simp only [Act.put, List.getElem_toArray, List.getElem_cons_zero, List.getElem_cons_succ, List.setIfInBounds_toArray, List.set_cons_zero, List.set_cons_succ]
                refine wpAnyH_take (i := 15) (v := undef) rfl (by kernel_rfl) (by kernel_rfl) (by kernel_rfl) (fun _ _ _ h => h) (Or.inr ⟨by rfl, rfl⟩) (by assumption) ?_
                try simp only [Act.put, List.getElem_toArray, List.getElem_cons_zero, List.getElem_cons_succ, List.setIfInBounds_toArray, List.set_cons_zero, List.set_cons_succ]
                refine wpAnyH_take (i := 16) (v := undef) rfl (by kernel_rfl) (by kernel_rfl) (by kernel_rfl) (fun _ _ _ h => h) (Or.inr ⟨by rfl, rfl⟩) (by assumption) ?_
                try simp only [Act.put, List.getElem_toArray, List.getElem_cons_zero, List.getElem_cons_succ, List.setIfInBounds_toArray, List.set_cons_zero, List.set_cons_succ]
                refine wpAnyH_take (i := 17) (v := ?_) rfl (by kernel_rfl) (by kernel_rfl) (by kernel_rfl) (fun _ _ _ h => h) (Or.inl ⟨by rfl, ?_⟩) (by assumption) ?_
                rotate_left 1
                · intro w _; go_simp; try with_reducible rfl
                try simp only [Act.put, List.getElem_toArray, List.getElem_cons_zero, List.getElem_cons_succ, List.setIfInBounds_toArray, List.set_cons_zero, List.set_cons_succ]
                refine wpAnyH_done (by kernel_rfl) ?_ _
                clear hHeld
                go_wp2_with fail
                go_ret2
                exact ⟨below_draws HBW.out 1, .inl ⟨HN.out, rfl⟩⟩
              | true =>
                have HKY := Lib.hid hk
                rw [hk] at HK
                clear hk
                by_cases he : v0 = y
                · have hne : (v0 != y) = false := by simpa using he
                  have HE := Lib.hid he
                  clear he
                  go_upto_region 7 with (fail)
                  refine wp_region_held_drew (S := fun w' => w'.cell? (ad.add i) = some (.int .u8 y) ∧ w'.cell? (ad3.add (i * 3)) = some (.int .u8 v0)) (by kernel_rfl) (⟨a0, q0⟩) (fun hHeld => ?_)
                  refine wpAnyH_take (i := 0) (v := ?_) rfl (by kernel_rfl) (by kernel_rfl) (by kernel_rfl) (fun _ _ _ h => h) (Or.inl ⟨by rfl, ?_⟩) (by assumption) ?_
                  rotate_left 1
                  · intro w _; go_simp; try with_reducible rfl
                  try simp only [Act.put, List.getElem_toArray, List.getElem_cons_zero, List.getElem_cons_succ, List.setIfInBounds_toArray, List.set_cons_zero, List.set_cons_succ]
                  refine wpAnyH_take (i := 1) (v := ?_) rfl (by kernel_rfl) (by kernel_rfl) (by kernel_rfl) (fun _ _ _ h => h) (Or.inl ⟨by rfl, ?_⟩) (by assumption) ?_
                  rotate_left 1
                  · intro w _; go_simp; try with_reducible rfl
                  try simp only [Act.put, List.getElem_toArray, List.getElem_cons_zero, List.getElem_cons_succ, List.setIfInBounds_toArray, List.set_cons_zero, List.set_cons_succ]
                  refine wpAnyH_take (i := 2) (v := ?_) rfl (by kernel_rfl) (by kernel_rfl) (by kernel_rfl) (fun _ _ _ h => h) (Or.inl ⟨by rfl, ?_⟩) (by assumption) ?_
                  rotate_left 1
                  · intro w _; go_simp; try with_reducible rfl
                  try simp only [Act.put, List.getElem_toArray, List.getElem_cons_zero, List.getElem_cons_succ, List.setIfInBounds_toArray, List.set_cons_zero, List.set_cons_succ]
                  refine wpAnyH_take (i := 3) (v := ?_) rfl (by kernel_rfl) (by kernel_rfl) (by kernel_rfl) (fun _ _ _ h => h) (Or.inl ⟨by rfl, ?_⟩) (by assumption) ?_
                  rotate_left 1
                  · intro w hSw; (try dsimp only at hSw); obtain ⟨s1, s2⟩ := hSw; go_simp; try with_reducible rfl
                  try simp only [Act.put, List.getElem_toArray, List.getElem_cons_zero, List.getElem_cons_succ, List.setIfInBounds_toArray, List.set_cons_zero, List.set_cons_succ]
                  refine wpAnyH_ready (rs := [4]) (by kernel_rfl) (by simp) ?_
                  refine AllReadyH.cons rfl (fun K hK => ?_) AllReadyH.nil
                  go_simp
                  refine HK.out.mono ?_
                  rintro e w5 ⟨rfl, rfl⟩
                  go_wp2_with fail
                  refine hK.out _ _ (⟨a0, q0⟩) (fun hHeld => ?_)
                  clear hK K
                  try simp only [Act.put, List.getElem_toArray, List.getElem_cons_zero, List.getElem_cons_succ, List.setIfInBounds_toArray, List.set_cons_zero, List.set_cons_succ]
                  refine wpAnyH_take (i := 5) (v := ?_) rfl (by kernel_rfl) (by kernel_rfl) (by kernel_rfl) (fun _ _ _ h => h) (Or.inl ⟨by rfl, ?_⟩) (by assumption) ?_
                  rotate_left 1
                  · intro w _; go_simp; try with_reducible rfl
                  try simp only [Act.put, List.getElem_toArray, List.getElem_cons_zero, List.getElem_cons_succ, List.setIfInBounds_toArray, List.set_cons_zero, List.set_cons_succ]
                  refine wpAnyH_take (i := 6) (v := ?_) rfl (by kernel_rfl) (by kernel_rfl) (by kernel_rfl) (fun _ _ _ h => h) (Or.inl ⟨by rfl, ?_⟩) (by assumption) ?_
                  rotate_left 1
                  · intro w _; go_simp; try with_reducible rfl
                  try simp only [Act.put, List.getElem_toArray, List.getElem_cons_zero, List.getElem_cons_succ, List.setIfInBounds_toArray, List.set_cons_zero, List.set_cons_succ]
                  refine wpAnyH_take (i := 7) (v := ?_) rfl (by kernel_rfl) (by kernel_rfl) (by kernel_rfl) (fun _ _ _ h => h) (Or.inl ⟨by rfl, ?_⟩) (by assumption) ?_
                  rotate_left 1
                  · intro w _; go_simp; try with_reducible rfl
                  try simp only [Act.put, List.getElem_toArray, List.getElem_cons_zero, List.getElem_cons_succ, List.setIfInBounds_toArray, List.set_cons_zero, List.set_cons_succ]
                  refine wpAnyH_take (i := 8) (v := ?_) rfl (by kernel_rfl) (by kernel_rfl) (by kernel_rfl) (fun _ _ _ h => h) (Or.inl ⟨by rfl, ?_⟩) (by assumption) ?_
                  rotate_left 1
                  · intro w _; go_simp; try with_reducible rfl
                  try simp only [Act.put, List.getElem_toArray, List.getElem_cons_zero, List.getElem_cons_succ, List.setIfInBounds_toArray, List.set_cons_zero, List.set_cons_succ]
                  refine wpAnyH_take (i := 9) (v := ?_) rfl (by kernel_rfl) (by kernel_rfl) (by kernel_rfl) (fun _ _ _ h => h) (Or.inl ⟨by rfl, ?_⟩) (by assumption) ?_
                  rotate_left 1
                  · intro w _; go_simp; try with_reducible rfl
                  try simp only [Act.put, List.getElem_toArray, List.getElem_cons_zero, List.getElem_cons_succ, List.setIfInBounds_toArray, List.set_cons_zero, List.set_cons_succ]
                  refine wpAnyH_take (i := 10) (v := ?_) rfl (by kernel_rfl) (by kernel_rfl) (by kernel_rfl) (fun _ _ _ h => h) (Or.inl ⟨by rfl, ?_⟩) (by assumption) ?_
                  rotate_left 1
                  · intro w _; go_simp; try with_reducible rfl
                  try simp only [Act.put, List.getElem_toArray, List.getElem_cons_zero, List.getElem_cons_succ, List.setIfInBounds_toArray, List.set_cons_zero, List.set_cons_succ]
                  refine wpAnyH_take (i := 11) (v := ?_) rfl (by kernel_rfl) (by kernel_rfl) (by kernel_rfl) (fun _ _ _ h => h) (Or.inl ⟨by rfl, ?_⟩) (by assumption) ?_
                  rotate_left 1
                  · intro w hSw; (try dsimp only at hSw); obtain ⟨s1, s2⟩ := hSw; go_simp; try with_reducible rfl
                  try simp only [Act.put, List.getElem_toArray, List.getElem_cons_zero, List.getElem_cons_succ, List.setIfInBounds_toArray, List.set_cons_zero, List.set_cons_succ]
                  refine wpAnyH_take (i := 12) (v := ?_) rfl (by kernel_rfl) (by kernel_rfl) (by kernel_rfl) (fun _ _ _ h => h) (Or.inl ⟨by rfl, ?_⟩) (by assumption) ?_
                  rotate_left 1
                  · intro w _; go_simp; try with_reducible rfl
                  try simp only [Act.put, List.getElem_toArray, List.getElem_cons_zero, List.getElem_cons_succ, List.setIfInBounds_toArray, List.set_cons_zero, List.set_cons_succ]
                  refine wpAnyH_take (i := 13) (v := ?_) rfl (by kernel_rfl) (by kernel_rfl) (by kernel_rfl) (fun _ _ _ h => h) (Or.inl ⟨by rfl, ?_⟩) (by assumption) ?_
                  rotate_left 1
                  · intro w _; go_simp; try with_reducible rfl
                  try simp only [Act.put, List.getElem_toArray, List.getElem_cons_zero, List.getElem_cons_succ, List.setIfInBounds_toArray, List.set_cons_zero, List.set_cons_succ]
                  refine wpAnyH_take (i := 14) (v := ?_) rfl (by kernel_rfl) (by kernel_rfl) (by kernel_rfl) (fun _ _ _ h => h) (Or.inl ⟨by rfl, ?_⟩) (by assumption) ?_
                  rotate_left 1
                  · intro w _; go_simp; try with_reducible rfl
                  try simp only [Act.put, List.getElem_toArray, List.getElem_cons_zero, List.getElem_cons_succ, List.setIfInBounds_toArray, List.set_cons_zero, List.set_cons_succ]
                  refine wpAnyH_take (i := 15) (v := ?_) rfl (by kernel_rfl) (by kernel_rfl) (by kernel_rfl) (fun _ _ _ h => h) (Or.inl ⟨by rfl, ?_⟩) (by assumption) ?_
                  rotate_left 1
                  · intro w hSw; (try dsimp only at hSw); obtain ⟨s1, s2⟩ := hSw; go_simp; try with_reducible rfl
                  try simp only [Act.put, List.getElem_toArray, List.getElem_cons_zero, List.getElem_cons_succ, List.setIfInBounds_toArray, List.set_cons_zero, List.set_cons_succ]
                  refine wpAnyH_take (i := 16) (v := ?_) rfl (by kernel_rfl) (by kernel_rfl) (by kernel_rfl) (fun _ _ _ h => h) (Or.inl ⟨by rfl, ?_⟩) (by assumption) ?_
                  rotate_left 1
                  · intro w _; go_simp; try with_reducible rfl
                  try simp only [Act.put, List.getElem_toArray, List.getElem_cons_zero, List.getElem_cons_succ, List.setIfInBounds_toArray, List.set_cons_zero, List.set_cons_succ]
                  refine wpAnyH_take (i := 17) (v := ?_) rfl (by kernel_rfl) (by kernel_rfl) (by kernel_rfl) (fun _ _ _ h => h) (Or.inl ⟨by rfl, ?_⟩) (by assumption) ?_
                  rotate_left 1
                  · intro w _; go_simp; try with_reducible rfl
                  try simp only [Act.put, List.getElem_toArray, List.getElem_cons_zero, List.getElem_cons_succ, List.setIfInBounds_toArray, List.set_cons_zero, List.set_cons_succ]
                  refine wpAnyH_done (by kernel_rfl) ?_ _
                  clear hHeld
                  go_upto_region 9 with (fail)
                  have HRD := Lib.hid (HRF.out.keep (below_draws (Below.refl wr.heap.size wr) 1))
                  change Hid (Rf16 X wr.drew B _) at HRD
                  have HBD := Lib.hid (below_draws HBW.out 1)
                  change Hid (Below w.heap.size w wr.drew) at HBD
                  clear HRF HBW HK
                  have q0 : wr.drew.cell? (ad3.add (i * 3)) = some (.int .u8 v0) := q0
                  have q1 : wr.drew.cell? ⟨(ad3.add (i * 3)).block, (ad3.add (i * 3)).off + 1, none⟩ = some (.int .i64 v1) := q1
                  have q2 : wr.drew.cell? ⟨(ad3.add (i * 3)).block, (ad3.add (i * 3)).off + 2, none⟩ = some (.int .i64 v2) := q2
                  generalize wr.drew = wr at HRD HBD q0 q1 q2 ⊢
                  obtain ⟨A, B2, B3, c, d2, d3, T, hq, x0, x1, x2, x3, x4⟩ := HRD.out
                  have HQ := Lib.hid hq
                  have X1 := Lib.hid x1
                  have X2 := Lib.hid x2
                  have X3 := Lib.hid x3
                  have X4 := Lib.hid x4
                  have b0 := hq.c0.1
                  obtain ⟨m, hm⟩ : ∃ m, (v.take i).length = m := ⟨_, rfl⟩
                  dsimp only at b0
                  rw [hm] at b0
                  have hm9 : m ≤ 16 := by rw [← hm]; have := List.length_take_le i v; omega
                  have HLM := Lib.hid hm
                  have HBW := HBD
                  clear hq x1 x2 x3 x4 hm HRD HBD hHeld
                  refine wp_region_L [13] (S := fun w' => w'.cell? ⟨B, 0, none⟩ = some (.slice A m c) ∧ w'.cell? (ad3.add (i * 3)) = some (.int .u8 v0) ∧ w'.cell? ⟨(ad3.add (i * 3)).block, (ad3.add (i * 3)).off + 1, none⟩ = some (.int .i64 v1) ∧ w'.cell? ⟨(ad3.add (i * 3)).block, (ad3.add (i * 3)).off + 2, none⟩ = some (.int .i64 v2)) (by kernel_rfl) (⟨b0, q0, q1, q2⟩) (fun hHeld => ?_)
                  refine wpL_reckon (i := 0) (v := ?_) rfl (by kernel_rfl) (fun _ _ _ h => h) (Or.inl ⟨by rfl, ?_⟩) (Or.inr (by assumption)) ?_
                  rotate_left 1
                  · intro w _; go_simp; try with_reducible rfl
                  try simp only [Act.put, List.getElem_toArray, List.getElem_cons_zero, List.getElem_cons_succ, List.setIfInBounds_toArray, List.set_cons_zero, List.set_cons_succ]
                  refine wpL_reckon (i := 1) (v := ?_) rfl (by kernel_rfl) (fun _ _ _ h => h) (Or.inl ⟨by rfl, ?_⟩) (Or.inr (by assumption)) ?_
                  rotate_left 1
                  · intro w _; go_simp; try with_reducible rfl
                  try simp only [Act.put, List.getElem_toArray, List.getElem_cons_zero, List.getElem_cons_succ, List.setIfInBounds_toArray, List.set_cons_zero, List.set_cons_succ]
                  refine wpL_reckon (i := 2) (v := ?_) rfl (by kernel_rfl) (fun _ _ _ h => h) (Or.inl ⟨by rfl, ?_⟩) (Or.inr (by assumption)) ?_
                  rotate_left 1
                  · intro w _; go_simp; try with_reducible rfl
                  try simp only [Act.put, List.getElem_toArray, List.getElem_cons_zero, List.getElem_cons_succ, List.setIfInBounds_toArray, List.set_cons_zero, List.set_cons_succ]
                  refine wpL_reckon (i := 3) (v := ?_) rfl (by kernel_rfl) (fun _ _ _ h => h) (Or.inl ⟨by rfl, ?_⟩) (Or.inr (by assumption)) ?_
                  rotate_left 1
                  · intro w _; go_simp; try with_reducible rfl
                  try simp only [Act.put, List.getElem_toArray, List.getElem_cons_zero, List.getElem_cons_succ, List.setIfInBounds_toArray, List.set_cons_zero, List.set_cons_succ]
                  refine wpL_take (i := 4) (v := ?_) rfl (by kernel_rfl) (fun _ _ _ h => h) (Or.inl ⟨by rfl, ?_⟩) (by assumption) ?_
                  rotate_left 1
                  · intro w hSw; (try dsimp only at hSw); obtain ⟨s1, s2, s3, s4⟩ := hSw; go_simp; try with_reducible rfl
                  try simp only [Act.put, List.getElem_toArray, List.getElem_cons_zero, List.getElem_cons_succ, List.setIfInBounds_toArray, List.set_cons_zero, List.set_cons_succ]
                  refine wpL_reckon (i := 5) (v := ?_) rfl (by kernel_rfl) (fun _ _ _ h => h) (Or.inl ⟨by rfl, ?_⟩) (Or.inr (by assumption)) ?_
                  rotate_left 1
                  · intro w _; go_simp; try with_reducible rfl
                  try simp only [Act.put, List.getElem_toArray, List.getElem_cons_zero, List.getElem_cons_succ, List.setIfInBounds_toArray, List.set_cons_zero, List.set_cons_succ]
                  refine wpL_reckon (i := 6) (v := ?_) rfl (by kernel_rfl) (fun _ _ _ h => h) (Or.inl ⟨by rfl, ?_⟩) (Or.inr (by assumption)) ?_
                  rotate_left 1
                  · intro w _; go_simp; try with_reducible rfl
                  try simp only [Act.put, List.getElem_toArray, List.getElem_cons_zero, List.getElem_cons_succ, List.setIfInBounds_toArray, List.set_cons_zero, List.set_cons_succ]
                  refine wpL_reckon (i := 7) (v := ?_) rfl (by kernel_rfl) (fun _ _ _ h => h) (Or.inl ⟨by rfl, ?_⟩) (Or.inr (by assumption)) ?_
                  rotate_left 1
                  · intro w _; go_simp; try with_reducible rfl
                  try simp only [Act.put, List.getElem_toArray, List.getElem_cons_zero, List.getElem_cons_succ, List.setIfInBounds_toArray, List.set_cons_zero, List.set_cons_succ]
                  refine wpL_take (i := 8) (v := ?_) rfl (by kernel_rfl) (fun _ _ _ h => h) (Or.inl ⟨by rfl, ?_⟩) (by assumption) ?_
                  rotate_left 1
                  · intro w hSw; (try dsimp only at hSw); obtain ⟨s1, s2, s3, s4⟩ := hSw; go_simp; try with_reducible rfl
                  try simp only [Act.put, List.getElem_toArray, List.getElem_cons_zero, List.getElem_cons_succ, List.setIfInBounds_toArray, List.set_cons_zero, List.set_cons_succ]
                  refine wpL_ready (rs := [9]) (by kernel_rfl) (by simp) ?_
                  refine AllL.cons rfl (fun K hK => ?_) AllL.nil
                  go_simp
                  have HF2 : Hid (Fr11 (fun _ => False) wr (wr.alloc (.cells #[.int .u8 v0, .int .i64 v1, .int .i64 v2] 33)).drew) := Lib.hid (((Fr11.refl _ _).alloc _).drewN 1)
                  have HR2 := Lib.hid (rv_new wr (v0, v1, v2) HV.out)
                  have K2 := fun {p : Addr} {u : Value} (h : wr.cell? p = some u) => (World.cell?_of_block (HF2.out.block p.block (cell_lt h) id)).trans h
                  have b0b := K2 b0
                  have q0b := K2 q0
                  have q1b := K2 q1
                  have q2b := K2 q2
                  change Hid (Rv (wr.alloc (.cells #[.int .u8 v0, .int .i64 v1, .int .i64 v2] 33)).drew _ _ _) at HR2
                  have HS2 : Hid (wr.heap.size ≤ (wr.alloc (.cells #[.int .u8 v0, .int .i64 v1, .int .i64 v2] 33)).drew.heap.size) := Lib.hid HF2.out.size
                  clear K2
                  generalize (wr.alloc (.cells #[.int .u8 v0, .int .i64 v1, .int .i64 v2] 33)).drew = wb at HF2 HR2 b0b q0b q1b q2b HS2 ⊢
                  generalize wr.heap.size = P2 at HR2 ⊢
                  refine hK.out _ _ (⟨b0b, q0b, q1b, q2b⟩) (fun hHeld => ?_)
                  clear hK K
                  try simp only [Act.put, List.getElem_toArray, List.getElem_cons_zero, List.getElem_cons_succ, List.setIfInBounds_toArray, List.set_cons_zero, List.set_cons_succ]
                  refine wpL_ready (rs := [10]) (by kernel_rfl) (by simp) ?_
                  refine AllL.cons rfl (fun K hK => ?_) AllL.nil
                  have HO2 := Lib.hid (own_fr16 HQ.out.rl HF2.out (fun _ _ => id))
                  dsimp only at HO2
                  rw [HLM.out] at HO2
                  refine step_append_rvgb rfl (.tmp 64) (.tmp 69) rfl (.slice A m c) m (v.take i) rfl HO2.out ⟨P2, 0, none⟩ 1 1 [(v0, v1, v2)] rfl HR2.out (by omega) rfl (by omega) ?_
                  intro A9 c9 w9 ho9 hg9 hb9
                  have hf9 : Fr11 (fun j => some j = (Value.slice A (v.take i).length c).ownBlock) wr w9 := (HF2.out.mono fun _ => False.elim).trans (Fr11.of_grown (X := fun j => some j = (Value.slice A (v.take i).length c).ownBlock) hg9 fun j hj => by rw [hj, HLM.out]) fun _ _ => id
                  obtain ⟨hB9, hend⟩ := rf16_locals (f := ⟨(v.take i), [], 0, fun _ => 0, 0⟩) (l' := (v.take i) ++ [(v0, v1, v2)]) (by rw [List.length_append, HLM.out]; rfl) (by
                    intro y hy
                    rw [List.append_nil] at hy
                    rcases List.mem_append.1 hy with hy | hy
                    · exact HQ.out.ok y (by rw [List.append_nil]; exact hy)
                    · rw [List.mem_singleton.1 hy]; exact HV.out) (by rw [List.length_append, HLM.out]; show m + 1 + 0 ≤ 256; omega) HQ.out x0 X1.out X2.out X3.out X4.out hf9 ho9 (hb16 (hb9.imp (fun h => h.trans (by rw [HLM.out])) fun h => ⟨_, HS2.out, h⟩))
                  have HEND := Lib.hid hend
                  dsimp only at hB9
                  rw [HLM.out] at hB9
                  have b0c : w9.cell? ⟨B, 0, none⟩ = some (.slice A m c) := by simp [World.cell?, hB9]
                  have hz9 : w9.frozen? ⟨B, 0, none⟩ = false := frozen_of_row w9 B 0 _ _ hB9
                  have HBZ : Hid (Below w.heap.size w w9) := Lib.hid (HBW.out.trans (hf9.below fun j hj => ⟨Nat.lt_of_lt_of_le hj HBW.out.size, fun e => by
                    cases hA : A with
                    | none => rw [hA] at e; simp [Value.ownBlock] at e
                    | some a => rw [hA] at e; have e2 : j = a.block := by { simpa [Value.ownBlock] using e }; have := XL.out _ (X1.out a hA); omega⟩))
                  have q0c := (HBZ.out.cell (cell_lt q0w.out)).trans q0w.out
                  have q1c := (HBZ.out.cell (cell_lt q1w.out)).trans q1w.out
                  have q2c := (HBZ.out.cell (cell_lt q2w.out)).trans q2w.out
                  clear HF2 HR2 HO2 b0b q0b q1b q2b ho9 hg9 hb9 hf9 hB9 hend HS2
                  refine hK.out _ _ (⟨b0c, q0c, q1c, q2c⟩) (fun hHeld => ?_)
                  clear hK K
                  try simp only [Act.put, List.getElem_toArray, List.getElem_cons_zero, List.getElem_cons_succ, List.setIfInBounds_toArray, List.set_cons_zero, List.set_cons_succ]
                  refine wpL_reckon (i := 11) (v := ?_) rfl (by kernel_rfl) (fun _ _ _ h => h) (Or.inl ⟨by rfl, ?_⟩) (Or.inr (by assumption)) ?_
                  rotate_left 1
                  · intro w _; go_simp; try with_reducible rfl
                  try simp only [Act.put, List.getElem_toArray, List.getElem_cons_zero, List.getElem_cons_succ, List.setIfInBounds_toArray, List.set_cons_zero, List.set_cons_succ]
                  refine wpL_reckon (i := 12) (v := ?_) rfl (by kernel_rfl) (fun _ _ _ h => h) (Or.inl ⟨by rfl, ?_⟩) (Or.inr (by assumption)) ?_
                  rotate_left 1
                  · intro w _; go_simp; try with_reducible rfl
                  try simp only [Act.put, List.getElem_toArray, List.getElem_cons_zero, List.getElem_cons_succ, List.setIfInBounds_toArray, List.set_cons_zero, List.set_cons_succ]
                  refine wpL_ready (rs := [13]) (by kernel_rfl) (by simp) ?_
                  refine AllL.late rfl (by kernel_rfl) (fun K hK => ?_) AllL.nil
                  go_simp
                  refine hK.out _ _ ?_
                  clear hK K
                  try simp only [Act.put, List.getElem_toArray, List.getElem_cons_zero, List.getElem_cons_succ, List.setIfInBounds_toArray, List.set_cons_zero, List.set_cons_succ]
                  refine wpL_done (by kernel_rfl) ?_ _
                  obtain ⟨X', e1, e2, e3⟩ := HEND.out
                  have HI2 := Lib.hid e1
                  rw [← HVT.out] at HI2
                  have HXL2 : Hid (∀ j, X' j → w.heap.size ≤ j) := Lib.hid (fun j hj => (e3 j hj).elim (XL.out j) (fun h => Nat.le_trans HBW.out.size h))
                  have HB2 := Lib.hid (HBW.out.trans (e2.below fun j hj => ⟨Nat.lt_of_lt_of_le hj HBW.out.size, fun hx => by have := XL.out j hx; omega⟩))
                  have HOK2 : Hid ((a.take (i + 1)).all kd16 = true ∧ (v.take (i + 1)).map (·.1) = a.take (i + 1)) := Lib.hid (by
                    rw [HAT.out, HVT.out, List.all_append, List.map_append, HOK.out.1, HOK.out.2, HE.out]
                    exact ⟨by simp [HKY.out], rfl⟩)
                  clear e1 e2 e3
                  clear b0c q0c q1c q2c hz9 hHeld
                  try dsimp only [Exit.then]
                  go_wp2_with fail
                  go_roundw
                  case rel => exact ⟨i + 1, X', by omega, by go_num, HI2, HXL2, HB2, HOK2⟩
                  case measure => simp [intOf]; omega
                · have hne : (v0 != y) = true := by simpa using he
                  have HN : Hid (nB16 a b v = false) := Lib.hid (nB16_no fun h => by
                    have h5 := h.2.2.2.1
                    have h6 := HVA.out
                    rw [h5, HYI.out] at h6
                    injection h6 with h6
                    exact he h6.symm)
                  clear he
                  go_upto_region 7 with (fail)
                  refine wp_region_held_drew (S := fun w' => w'.cell? (ad.add i) = some (.int .u8 y) ∧ w'.cell? (ad3.add (i * 3)) = some (.int .u8 v0)) (by kernel_rfl) (⟨a0, q0⟩) (fun hHeld => ?_)
                  refine wpAnyH_take (i := 0) (v := ?_) rfl (by kernel_rfl) (by kernel_rfl) (by kernel_rfl) (fun _ _ _ h => h) (Or.inl ⟨by rfl, ?_⟩) (by assumption) ?_
                  rotate_left 1
                  · intro w _; go_simp; try with_reducible rfl
                  try simp only [Act.put, List.getElem_toArray, List.getElem_cons_zero, List.getElem_cons_succ, List.setIfInBounds_toArray, List.set_cons_zero, List.set_cons_succ]
                  refine wpAnyH_take (i := 1) (v := ?_) rfl (by kernel_rfl) (by kernel_rfl) (by kernel_rfl) (fun _ _ _ h => h) (Or.inl ⟨by rfl, ?_⟩) (by assumption) ?_
                  rotate_left 1
                  · intro w _; go_simp; try with_reducible rfl
                  try simp only [Act.put, List.getElem_toArray, List.getElem_cons_zero, List.getElem_cons_succ, List.setIfInBounds_toArray, List.set_cons_zero, List.set_cons_succ]
                  refine wpAnyH_take (i := 2) (v := ?_) rfl (by kernel_rfl) (by kernel_rfl) (by kernel_rfl) (fun _ _ _ h => h) (Or.inl ⟨by rfl, ?_⟩) (by assumption) ?_
                  rotate_left 1
                  · intro w _; go_simp; try with_reducible rfl
                  try simp only [Act.put, List.getElem_toArray, List.getElem_cons_zero, List.getElem_cons_succ, List.setIfInBounds_toArray, List.set_cons_zero, List.set_cons_succ]
                  refine wpAnyH_take (i := 3) (v := ?_) rfl (by kernel_rfl) (by kernel_rfl) (by kernel_rfl) (fun _ _ _ h => h) (Or.inl ⟨by rfl, ?_⟩) (by assumption) ?_
                  rotate_left 1
                  · intro w hSw; (try dsimp only at hSw); obtain ⟨s1, s2⟩ := hSw; go_simp; try with_reducible rfl
                  try simp only [Act.put, List.getElem_toArray, List.getElem_cons_zero, List.getElem_cons_succ, List.setIfInBounds_toArray, List.set_cons_zero, List.set_cons_succ]
                  refine wpAnyH_ready (rs := [4]) (by kernel_rfl) (by simp) ?_
                  refine AllReadyH.cons rfl (fun K hK => ?_) AllReadyH.nil
                  go_simp
                  refine HK.out.mono ?_
                  rintro e w5 ⟨rfl, rfl⟩
                  go_wp2_with fail
                  refine hK.out _ _ (⟨a0, q0⟩) (fun hHeld => ?_)
                  clear hK K
                  try simp only [Act.put, List.getElem_toArray, List.getElem_cons_zero, List.getElem_cons_succ, List.setIfInBounds_toArray, List.set_cons_zero, List.set_cons_succ]
                  refine wpAnyH_take (i := 5) (v := ?_) rfl (by kernel_rfl) (by kernel_rfl) (by kernel_rfl) (fun _ _ _ h => h) (Or.inl ⟨by rfl, ?_⟩) (by assumption) ?_
                  rotate_left 1
                  · intro w _; go_simp; try with_reducible rfl
                  try simp only [Act.put, List.getElem_toArray, List.getElem_cons_zero, List.getElem_cons_succ, List.setIfInBounds_toArray, List.set_cons_zero, List.set_cons_succ]
                  refine wpAnyH_take (i := 6) (v := ?_) rfl (by kernel_rfl) (by kernel_rfl) (by kernel_rfl) (fun _ _ _ h => h) (Or.inl ⟨by rfl, ?_⟩) (by assumption) ?_
                  rotate_left 1
                  · intro w _; go_simp; try with_reducible rfl
                  try simp only [Act.put, List.getElem_toArray, List.getElem_cons_zero, List.getElem_cons_succ, List.setIfInBounds_toArray, List.set_cons_zero, List.set_cons_succ]
                  refine wpAnyH_take (i := 7) (v := ?_) rfl (by kernel_rfl) (by kernel_rfl) (by kernel_rfl) (fun _ _ _ h => h) (Or.inl ⟨by rfl, ?_⟩) (by assumption) ?_
                  rotate_left 1
                  · intro w _; go_simp; try with_reducible rfl
                  try simp only [Act.put, List.getElem_toArray, List.getElem_cons_zero, List.getElem_cons_succ, List.setIfInBounds_toArray, List.set_cons_zero, List.set_cons_succ]
                  refine wpAnyH_take (i := 8) (v := ?_) rfl (by kernel_rfl) (by kernel_rfl) (by kernel_rfl) (fun _ _ _ h => h) (Or.inl ⟨by rfl, ?_⟩) (by assumption) ?_
                  rotate_left 1
                  · intro w _; go_simp; try with_reducible rfl
                  try simp only [Act.put, List.getElem_toArray, List.getElem_cons_zero, List.getElem_cons_succ, List.setIfInBounds_toArray, List.set_cons_zero, List.set_cons_succ]
                  refine wpAnyH_take (i := 9) (v := ?_) rfl (by kernel_rfl) (by kernel_rfl) (by kernel_rfl) (fun _ _ _ h => h) (Or.inl ⟨by rfl, ?_⟩) (by assumption) ?_
                  rotate_left 1
                  · intro w _; go_simp; try with_reducible rfl
                  try simp only [Act.put, List.getElem_toArray, List.getElem_cons_zero, List.getElem_cons_succ, List.setIfInBounds_toArray, List.set_cons_zero, List.set_cons_succ]
                  refine wpAnyH_take (i := 10) (v := ?_) rfl (by kernel_rfl) (by kernel_rfl) (by kernel_rfl) (fun _ _ _ h => h) (Or.inl ⟨by rfl, ?_⟩) (by assumption) ?_
                  rotate_left 1
                  · intro w _; go_simp; try with_reducible rfl
                  try simp only [Act.put, List.getElem_toArray, List.getElem_cons_zero, List.getElem_cons_succ, List.setIfInBounds_toArray, List.set_cons_zero, List.set_cons_succ]
                  refine wpAnyH_take (i := 11) (v := ?_) rfl (by kernel_rfl) (by kernel_rfl) (by kernel_rfl) (fun _ _ _ h => h) (Or.inl ⟨by rfl, ?_⟩) (by assumption) ?_
                  rotate_left 1
                  · intro w hSw; (try dsimp only at hSw); obtain ⟨s1, s2⟩ := hSw; go_simp; try with_reducible rfl
                  try simp only [Act.put, List.getElem_toArray, List.getElem_cons_zero, List.getElem_cons_succ, List.setIfInBounds_toArray, List.set_cons_zero, List.set_cons_succ]
                  refine wpAnyH_take (i := 12) (v := ?_) rfl (by kernel_rfl) (by kernel_rfl) (by kernel_rfl) (fun _ _ _ h => h) (Or.inl ⟨by rfl, ?_⟩) (by assumption) ?_
                  rotate_left 1
                  · intro w _; go_simp; try with_reducible rfl
                  try simp only [Act.put, List.getElem_toArray, List.getElem_cons_zero, List.getElem_cons_succ, List.setIfInBounds_toArray, List.set_cons_zero, List.set_cons_succ]
                  refine wpAnyH_take (i := 13) (v := ?_) rfl (by kernel_rfl) (by kernel_rfl) (by kernel_rfl) (fun _ _ _ h => h) (Or.inl ⟨by rfl, ?_⟩) (by assumption) ?_
                  rotate_left 1
                  · intro w _; go_simp; try with_reducible rfl
                  try simp only [Act.put, List.getElem_toArray, List.getElem_cons_zero, List.getElem_cons_succ, List.setIfInBounds_toArray, List.set_cons_zero, List.set_cons_succ]
                  refine wpAnyH_take (i := 14) (v := ?_) rfl (by kernel_rfl) (by kernel_rfl) (by kernel_rfl) (fun _ _ _ h => h) (Or.inl ⟨by rfl, ?_⟩) (by assumption) ?_
                  rotate_left 1
                  · intro w _; go_simp; try with_reducible rfl
                  try simp only [Act.put, List.getElem_toArray, List.getElem_cons_zero, List.getElem_cons_succ, List.setIfInBounds_toArray, List.set_cons_zero, List.set_cons_succ]
                  refine wpAnyH_take (i := 15) (v := ?_) rfl (by kernel_rfl) (by kernel_rfl) (by kernel_rfl) (fun _ _ _ h => h) (Or.inl ⟨by rfl, ?_⟩) (by assumption) ?_
                  rotate_left 1
                  · intro w hSw; (try dsimp only at hSw); obtain ⟨s1, s2⟩ := hSw; go_simp; try with_reducible rfl
                  try simp only [Act.put, List.getElem_toArray, List.getElem_cons_zero, List.getElem_cons_succ, List.setIfInBounds_toArray, List.set_cons_zero, List.set_cons_succ]
                  refine wpAnyH_take (i := 16) (v := ?_) rfl (by kernel_rfl) (by kernel_rfl) (by kernel_rfl) (fun _ _ _ h => h) (Or.inl ⟨by rfl, ?_⟩) (by assumption) ?_
                  rotate_left 1
                  · intro w _; go_simp; try with_reducible rfl
                  try simp only [Act.put, List.getElem_toArray, List.getElem_cons_zero, List.getElem_cons_succ, List.setIfInBounds_toArray, List.set_cons_zero, List.set_cons_succ]
                  refine wpAnyH_take (i := 17) (v := ?_) rfl (by kernel_rfl) (by kernel_rfl) (by kernel_rfl) (fun _ _ _ h => h) (Or.inl ⟨by rfl, ?_⟩) (by assumption) ?_
                  rotate_left 1
                  · intro w _; go_simp; try with_reducible rfl
                  try simp only [Act.put, List.getElem_toArray, List.getElem_cons_zero, List.getElem_cons_succ, List.setIfInBounds_toArray, List.set_cons_zero, List.set_cons_succ]
                  refine wpAnyH_done (by kernel_rfl) ?_ _
                  clear hHeld
                  go_wp2_with fail
                  go_ret2
                  exact ⟨below_draws HBW.out 1, .inl ⟨HN.out, rfl⟩⟩
            · obtain rfl : i = n1 := by omega
              have HVF : Hid (v.take i = v) := Lib.hid (List.take_of_length_le (by rw [H3.out]; exact Nat.le_refl _))
              have HAF : Hid (a.all kd16 = true ∧ v.map (·.1) = a) := Lib.hid (by
                have h := HOK.out
                rw [HVF.out, List.take_of_length_le (by rw [H1.out]; exact Nat.le_refl _)] at h
                exact h)
              rw [HVF.out] at HRF
              clear HOK
              have HRF0 : Hid (Rf16 X wr B ⟨v ++ (b.take 0).map fun k => ((k, 0, 0) : Vlu), [], 0, fun _ => 0, 0⟩) := Lib.hid (by rw [List.take_zero, List.map_nil, List.append_nil]; exact HRF.out)
              have HXL0 := XL
              have HBW0 := HBW
              clear HRF XL HBW
              go_wp2_with fail
              go_loopw [10] (fun iv wr => ∃ (i : Nat) (X : Nat → Prop), i ≤ n2 ∧ iv = .int .i64 i ∧ Hid (Rf16 X wr B ⟨v ++ (b.take i).map fun k => ((k, 0, 0) : Vlu), [], 0, fun _ => 0, 0⟩) ∧ Hid (∀ j, X j → w.heap.size ≤ j) ∧ Hid (Below w.heap.size w wr) ∧ Hid ((b.take i).all kd16 = true)) (fun iv _ => n2 - (intOf iv).toNat)
              case atStart => exact ⟨0, _, by omega, rfl, HRF0, HXL0, HBW0, Lib.hid rfl⟩
              case round =>
                clear HRF0 HXL0 HBW0
                obtain ⟨j, X, hi, rfl, HRF, XL, HBW, HOK⟩ := hrel
                rename World => wr
                obtain ⟨i, hij⟩ : ∃ i, i = j := ⟨_, rfl⟩
                subst hij
                by_cases h1 : i < n2
                · have hib : i < b.length := by rw [H2.out]; exact h1
                  obtain ⟨ad, hA2, a0w⟩ := HB.out.at_ hib
                  subst hA2
                  obtain ⟨v0, hy⟩ : ∃ y, b[i]? = some y := ⟨_, List.getElem?_eq_getElem hib⟩
                  rw [hy, Option.getD_some] at a0w
                  have hby := HB.out.byte i
                  rw [hy, Option.getD_some] at hby
                  have HV : Hid (VlOk (v0, 0, 0)) := Lib.hid (by unfold VlOk; dsimp only; omega)
                  have HBT : Hid (b.take (i + 1) = b.take i ++ [v0]) := Lib.hid (by rw [List.take_add_one, hy]; rfl)
                  have HYM : Hid (v0 ∈ b) := Lib.hid (List.mem_of_getElem? hy)
                  have a0 := (HBW.out.cell (cell_lt a0w)).trans a0w
                  have a0w := Lib.hid a0w
                  clear hy hib hby
                  have HK := Lib.hid (rkind_v v0 wr)
                  cases hk : kd16 v0 with
                  | false =>
                    have HN : Hid (nB16 a b v = false) := Lib.hid (nB16_no fun h => by have := List.all_eq_true.1 h.2.2.2.2 v0 HYM.out; rw [hk] at this; cases this)
                    rw [hk] at HK
                    clear hk
                    go_wp2_with fail
                    refine HK.out.mono ?_
                    rintro e w5 ⟨rfl, rfl⟩
                    go_wp2_with fail
                    go_ret2
                    exact ⟨HBW.out, .inl ⟨HN.out, rfl⟩⟩
                  | true =>
                    have HKY := Lib.hid hk
                    rw [hk] at HK
                    clear hk
                    go_wp2_with fail
                    refine HK.out.mono ?_
                    rintro e wz ⟨rfl, hw⟩
                    have hw := hw.symm
                    subst hw
                    go_upto_region 15 with (fail)
                    have HRD := HRF
                    have HBD := HBW
                    have hHeld : True := trivial
                    clear HRF HBW HK
                    obtain ⟨A, B2, B3, c, d2, d3, T, hq, x0, x1, x2, x3, x4⟩ := HRD.out
                    have HQ := Lib.hid hq
                    have X1 := Lib.hid x1
                    have X2 := Lib.hid x2
                    have X3 := Lib.hid x3
                    have X4 := Lib.hid x4
                    have b0 := hq.c0.1
                    obtain ⟨m, hm⟩ : ∃ m, (v ++ (b.take i).map fun k => ((k, 0, 0) : Vlu)).length = m := ⟨_, rfl⟩
                    dsimp only at b0
                    rw [hm] at b0
                    have hm9 : m ≤ 16 := by rw [← hm]; rw [List.length_append, List.length_map, H3.out]; have := List.length_take_le i b; omega
                    have HLM := Lib.hid hm
                    have HBW := HBD
                    clear hq x1 x2 x3 x4 hm HRD HBD hHeld
                    refine wp_region_L [14] (S := fun w' => w'.cell? ⟨B, 0, none⟩ = some (.slice A m c) ∧ w'.cell? (ad.add i) = some (.int .u8 v0)) (by kernel_rfl) (⟨b0, a0⟩) (fun hHeld => ?_)
                    refine wpL_reckon (i := 0) (v := ?_) rfl (by kernel_rfl) (fun _ _ _ h => h) (Or.inl ⟨by rfl, ?_⟩) (Or.inr (by assumption)) ?_
                    rotate_left 1
                    · intro w _; go_simp; try with_reducible rfl
                    try simp only [Act.put, List.getElem_toArray, List.getElem_cons_zero, List.getElem_cons_succ, List.setIfInBounds_toArray, List.set_cons_zero, List.set_cons_succ]
                    refine wpL_reckon (i := 1) (v := ?_) rfl (by kernel_rfl) (fun _ _ _ h => h) (Or.inl ⟨by rfl, ?_⟩) (Or.inr (by assumption)) ?_
                    rotate_left 1
                    · intro w _; go_simp; try with_reducible rfl
                    try simp only [Act.put, List.getElem_toArray, List.getElem_cons_zero, List.getElem_cons_succ, List.setIfInBounds_toArray, List.set_cons_zero, List.set_cons_succ]
                    refine wpL_reckon (i := 2) (v := ?_) rfl (by kernel_rfl) (fun _ _ _ h => h) (Or.inl ⟨by rfl, ?_⟩) (Or.inr (by assumption)) ?_
                    rotate_left 1
                    · intro w _; go_simp; try with_reducible rfl
                    try simp only [Act.put, List.getElem_toArray, List.getElem_cons_zero, List.getElem_cons_succ, List.setIfInBounds_toArray, List.set_cons_zero, List.set_cons_succ]
                    refine wpL_reckon (i := 3) (v := ?_) rfl (by kernel_rfl) (fun _ _ _ h => h) (Or.inl ⟨by rfl, ?_⟩) (Or.inr (by assumption)) ?_
                    rotate_left 1
                    · intro w _; go_simp; try with_reducible rfl
                    try simp only [Act.put, List.getElem_toArray, List.getElem_cons_zero, List.getElem_cons_succ, List.setIfInBounds_toArray, List.set_cons_zero, List.set_cons_succ]
                    refine wpL_take (i := 4) (v := ?_) rfl (by kernel_rfl) (fun _ _ _ h => h) (Or.inl ⟨by rfl, ?_⟩) (by assumption) ?_
                    rotate_left 1
                    · intro w hSw; (try dsimp only at hSw); obtain ⟨s1, s2⟩ := hSw; go_simp; try with_reducible rfl
                    try simp only [Act.put, List.getElem_toArray, List.getElem_cons_zero, List.getElem_cons_succ, List.setIfInBounds_toArray, List.set_cons_zero, List.set_cons_succ]
                    refine wpL_reckon (i := 5) (v := ?_) rfl (by kernel_rfl) (fun _ _ _ h => h) (Or.inl ⟨by rfl, ?_⟩) (Or.inr (by assumption)) ?_
                    rotate_left 1
                    · intro w _; go_simp; try with_reducible rfl
                    try simp only [Act.put, List.getElem_toArray, List.getElem_cons_zero, List.getElem_cons_succ, List.setIfInBounds_toArray, List.set_cons_zero, List.set_cons_succ]
                    refine wpL_reckon (i := 6) (v := ?_) rfl (by kernel_rfl) (fun _ _ _ h => h) (Or.inl ⟨by rfl, ?_⟩) (Or.inr (by assumption)) ?_
                    rotate_left 1
                    · intro w _; go_simp; try with_reducible rfl
                    try simp only [Act.put, List.getElem_toArray, List.getElem_cons_zero, List.getElem_cons_succ, List.setIfInBounds_toArray, List.set_cons_zero, List.set_cons_succ]
                    refine wpL_reckon (i := 7) (v := ?_) rfl (by kernel_rfl) (fun _ _ _ h => h) (Or.inl ⟨by rfl, ?_⟩) (Or.inr (by assumption)) ?_
                    rotate_left 1
                    · intro w _; go_simp; try with_reducible rfl
                    try simp only [Act.put, List.getElem_toArray, List.getElem_cons_zero, List.getElem_cons_succ, List.setIfInBounds_toArray, List.set_cons_zero, List.set_cons_succ]
                    refine wpL_take (i := 8) (v := ?_) rfl (by kernel_rfl) (fun _ _ _ h => h) (Or.inl ⟨by rfl, ?_⟩) (by assumption) ?_
                    rotate_left 1
                    · intro w hSw; (try dsimp only at hSw); obtain ⟨s1, s2⟩ := hSw; go_simp; try with_reducible rfl
                    try simp only [Act.put, List.getElem_toArray, List.getElem_cons_zero, List.getElem_cons_succ, List.setIfInBounds_toArray, List.set_cons_zero, List.set_cons_succ]
                    refine wpL_reckon (i := 9) (v := ?_) rfl (by kernel_rfl) (fun _ _ _ h => h) (Or.inl ⟨by rfl, ?_⟩) (Or.inr (by assumption)) ?_
                    rotate_left 1
                    · intro w _; go_simp; try with_reducible rfl
                    try simp only [Act.put, List.getElem_toArray, List.getElem_cons_zero, List.getElem_cons_succ, List.setIfInBounds_toArray, List.set_cons_zero, List.set_cons_succ]
                    refine wpL_ready (rs := [10]) (by kernel_rfl) (by simp) ?_
                    refine AllL.cons rfl (fun K hK => ?_) AllL.nil
                    go_simp
                    have HF2 : Hid (Fr11 (fun _ => False) wr (wr.alloc (.cells #[.int .u8 v0, .int .i64 0, .int .i64 0] 33)).drew) := Lib.hid (((Fr11.refl _ _).alloc _).drewN 1)
                    have HR2 := Lib.hid (rv_new wr (v0, 0, 0) HV.out)
                    have K2 := fun {p : Addr} {u : Value} (h : wr.cell? p = some u) => (World.cell?_of_block (HF2.out.block p.block (cell_lt h) id)).trans h
                    have b0b := K2 b0
                    have a0b := K2 a0
                    change Hid (Rv (wr.alloc (.cells #[.int .u8 v0, .int .i64 0, .int .i64 0] 33)).drew _ _ _) at HR2
                    have HS2 : Hid (wr.heap.size ≤ (wr.alloc (.cells #[.int .u8 v0, .int .i64 0, .int .i64 0] 33)).drew.heap.size) := Lib.hid HF2.out.size
                    clear K2
                    generalize (wr.alloc (.cells #[.int .u8 v0, .int .i64 0, .int .i64 0] 33)).drew = wb at HF2 HR2 b0b a0b HS2 ⊢
                    generalize wr.heap.size = P2 at HR2 ⊢
                    refine hK.out _ _ (⟨b0b, a0b⟩) (fun hHeld => ?_)
                    clear hK K
                    try simp only [Act.put, List.getElem_toArray, List.getElem_cons_zero, List.getElem_cons_succ, List.setIfInBounds_toArray, List.set_cons_zero, List.set_cons_succ]
                    refine wpL_ready (rs := [11]) (by kernel_rfl) (by simp) ?_
                    refine AllL.cons rfl (fun K hK => ?_) AllL.nil
                    have HO2 := Lib.hid (own_fr16 HQ.out.rl HF2.out (fun _ _ => id))
                    dsimp only at HO2
                    rw [HLM.out] at HO2
                    refine step_append_rvgb rfl (.tmp 89) (.tmp 95) rfl (.slice A m c) m (v ++ (b.take i).map fun k => ((k, 0, 0) : Vlu)) rfl HO2.out ⟨P2, 0, none⟩ 1 1 [(v0, 0, 0)] rfl HR2.out (by omega) rfl (by omega) ?_
                    intro A9 c9 w9 ho9 hg9 hb9
                    have hf9 : Fr11 (fun j => some j = (Value.slice A (v ++ (b.take i).map fun k => ((k, 0, 0) : Vlu)).length c).ownBlock) wr w9 := (HF2.out.mono fun _ => False.elim).trans (Fr11.of_grown (X := fun j => some j = (Value.slice A (v ++ (b.take i).map fun k => ((k, 0, 0) : Vlu)).length c).ownBlock) hg9 fun j hj => by rw [hj, HLM.out]) fun _ _ => id
                    obtain ⟨hB9, hend⟩ := rf16_locals (f := ⟨(v ++ (b.take i).map fun k => ((k, 0, 0) : Vlu)), [], 0, fun _ => 0, 0⟩) (l' := (v ++ (b.take i).map fun k => ((k, 0, 0) : Vlu)) ++ [(v0, 0, 0)]) (by rw [List.length_append, HLM.out]; rfl) (by
                      intro y hy
                      rw [List.append_nil] at hy
                      rcases List.mem_append.1 hy with hy | hy
                      · exact HQ.out.ok y (by rw [List.append_nil]; exact hy)
                      · rw [List.mem_singleton.1 hy]; exact HV.out) (by rw [List.length_append, HLM.out]; show m + 1 + 0 ≤ 256; omega) HQ.out x0 X1.out X2.out X3.out X4.out hf9 ho9 (hb16 (hb9.imp (fun h => h.trans (by rw [HLM.out])) fun h => ⟨_, HS2.out, h⟩))
                    have HEND := Lib.hid hend
                    dsimp only at hB9
                    rw [HLM.out] at hB9
                    have b0c : w9.cell? ⟨B, 0, none⟩ = some (.slice A m c) := by simp [World.cell?, hB9]
                    have hz9 : w9.frozen? ⟨B, 0, none⟩ = false := frozen_of_row w9 B 0 _ _ hB9
                    have HBZ : Hid (Below w.heap.size w w9) := Lib.hid (HBW.out.trans (hf9.below fun j hj => ⟨Nat.lt_of_lt_of_le hj HBW.out.size, fun e => by
                      cases hA : A with
                      | none => rw [hA] at e; simp [Value.ownBlock] at e
                      | some a => rw [hA] at e; have e2 : j = a.block := by { simpa [Value.ownBlock] using e }; have := XL.out _ (X1.out a hA); omega⟩))
                    have a0c := (HBZ.out.cell (cell_lt a0w.out)).trans a0w.out
                    clear HF2 HR2 HO2 b0b a0b ho9 hg9 hb9 hf9 hB9 hend HS2
                    refine hK.out _ _ (⟨b0c, a0c⟩) (fun hHeld => ?_)
                    clear hK K
                    try simp only [Act.put, List.getElem_toArray, List.getElem_cons_zero, List.getElem_cons_succ, List.setIfInBounds_toArray, List.set_cons_zero, List.set_cons_succ]
                    refine wpL_reckon (i := 12) (v := ?_) rfl (by kernel_rfl) (fun _ _ _ h => h) (Or.inl ⟨by rfl, ?_⟩) (Or.inr (by assumption)) ?_
                    rotate_left 1
                    · intro w _; go_simp; try with_reducible rfl
                    try simp only [Act.put, List.getElem_toArray, List.getElem_cons_zero, List.getElem_cons_succ, List.setIfInBounds_toArray, List.set_cons_zero, List.set_cons_succ]
                    refine wpL_reckon (i := 13) (v := ?_) rfl (by kernel_rfl) (fun _ _ _ h => h) (Or.inl ⟨by rfl, ?_⟩) (Or.inr (by assumption)) ?_
                    rotate_left 1
                    · intro w _; go_simp; try with_reducible rfl
                    try simp only [Act.put, List.getElem_toArray, List.getElem_cons_zero, List.getElem_cons_succ, List.setIfInBounds_toArray, List.set_cons_zero, List.set_cons_succ]
                    refine wpL_ready (rs := [14]) (by kernel_rfl) (by simp) ?_
                    refine AllL.late rfl (by kernel_rfl) (fun K hK => ?_) AllL.nil
                    go_simp
                    refine hK.out _ _ ?_
                    clear hK K
                    try simp only [Act.put, List.getElem_toArray, List.getElem_cons_zero, List.getElem_cons_succ, List.setIfInBounds_toArray, List.set_cons_zero, List.set_cons_succ]
                    refine wpL_done (by kernel_rfl) ?_ _
                    obtain ⟨X', e1, e2, e3⟩ := HEND.out
                    have HI2 := Lib.hid e1
                    have HEQ : Hid ((v ++ (b.take i).map fun k => ((k, 0, 0) : Vlu)) ++ [(v0, 0, 0)] = v ++ (b.take (i + 1)).map fun k => ((k, 0, 0) : Vlu)) := Lib.hid (by rw [HBT.out, List.map_append, List.append_assoc]; rfl)
                    rw [HEQ.out] at HI2
                    have HXL2 : Hid (∀ j, X' j → w.heap.size ≤ j) := Lib.hid (fun j hj => (e3 j hj).elim (XL.out j) (fun h => Nat.le_trans HBW.out.size h))
                    have HB2 := Lib.hid (HBW.out.trans (e2.below fun j hj => ⟨Nat.lt_of_lt_of_le hj HBW.out.size, fun hx => by have := XL.out j hx; omega⟩))
                    have HOK2 : Hid ((b.take (i + 1)).all kd16 = true) := Lib.hid (by
                      rw [HBT.out, List.all_append, HOK.out]
                      simp [HKY.out])
                    clear e1 e2 e3
                    clear b0c a0c hz9 hHeld
                    try dsimp only [Exit.then]
                    go_wp2_with fail
                    go_roundw
                    case rel => exact ⟨i + 1, X', by omega, by go_num, HI2, HXL2, HB2, HOK2⟩
                    case measure => simp [intOf]; omega
                · obtain rfl : i = n2 := by omega
                  have HBF : Hid (b.take i = b) := Lib.hid (List.take_of_length_le (by rw [H2.out]; exact Nat.le_refl _))
                  rw [HBF.out] at HRF HOK
                  have HN : Hid (nB16 a b v = true) := Lib.hid (by
                    rw [nB16, HAF.out.1, HOK.out, decide_eq_true HAF.out.2, decide_eq_true (by rw [H1.out, H3.out]), decide_eq_true (by rw [H1.out, H2.out]; omega)]
                    rfl)
                  go_wp2_with fail
                  go_ret2
                  exact ⟨HBW.out, .inr ⟨HN.out, B, X, rfl, HRF.out, XL.out⟩⟩
  · have HN : Hid (nB16 a b v = false) := Lib.hid (nB16_no fun h => by have := h.1; rw [H1.out, H3.out] at this; omega)
    have g2 : ¬ (n1 : Int) = n3 := by omega
    go_enter Try.func8, Try.ntmps8
    go_wp2_with fail
    go_ret2
    exact ⟨Below.refl _ _, .inl ⟨HN.out, rfl⟩⟩
end Go.Proofs.Ytkifapnmojfjoaa
