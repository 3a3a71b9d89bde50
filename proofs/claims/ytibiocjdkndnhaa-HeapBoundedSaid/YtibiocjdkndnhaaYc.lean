/-
  Layer 15: the program's At, Put, Len.
-/
import Derived.Test.YtibiocjdkndnhaaYb
namespace Go.Proofs.Ytibiocjdkndnhaa
open Go.RowKit
set_option maxRecDepth 100000
set_option linter.unusedSimpArgs false
set_option linter.unusedVariables false

/-- The heap at block B holds the arrays Z; it lies in the blocks of X. -/
def Hp15 (X : Nat → Prop) (w : World) (B R : Nat) (Z : List (List Int)) : Prop := ∃ g ra c la P, Hq15 w B g ra c R Z la P ∧ X B ∧ X g ∧ X ra ∧ ∀ j, X j → j < w.heap.size
section
variable {w w' : World} {B g ra c R : Nat} {Z : List (List Int)} {la : Addr} {P : List Value} {X Y : Nat → Prop}
theorem Hp15.fr (h : Hp15 X w B R Z) (hf : Fr11 Y w w') (hx : ∀ j, X j → ¬ Y j) : Hp15 X w' B R Z := by
  obtain ⟨g, ra, c, la, P, h, h1, h2, h3, h4⟩ := h
  exact ⟨g, ra, c, la, P, h.fr hf (hx _ h1) (hx _ h2) (hx _ h3), h1, h2, h3, fun j hj => Nat.lt_of_lt_of_le (h4 j hj) hf.size⟩
theorem Hp15.keep (h : Hp15 X w B R Z) (hb : Below w.heap.size w w') : Hp15 X w' B R Z := h.fr (nb15 hb) fun _ _ => id
theorem Hq15.Bg (h : Hq15 w B g ra c R Z la P) : B ≠ g := by
  intro e
  subst e
  have := h.box.symm.trans h.wd
  simp at this
theorem own_ty15 {e n c : Nat} {xs : List Value} (h : w.ownsRow 0 e 1 (.slice (some ⟨ra, 0, none⟩) n c) n xs) : ∃ cur, w.heap[ra]? = some (.cells cur e (0, 0)) := by
  rcases h.2 with ⟨h1, _⟩ | ⟨g, cap, cur, hv, _, hh, _⟩
  · cases h1
  · injection hv with e1
    injection e1 with e1
    injection e1 with e1
    subst e1
    exact ⟨cur, hh⟩
theorem Hq15.rg (h : Hq15 w B g ra c R Z la P) : ra ≠ g := by
  intro e
  subst e
  obtain ⟨cur, hc⟩ := own_ty15 h.row
  have := hc.symm.trans h.wd
  simp at this
theorem Hq15.rB (h : Hq15 w B g ra c R Z la P) : ra ≠ B := by
  intro e
  subst e
  obtain ⟨cur, hc⟩ := own_ty15 h.row
  have := hc.symm.trans h.box
  simp at this
theorem Hq15.put (h : Hq15 w B g ra c R Z la P) {r i v : Int} (hp : pl15 Z r i = true) : Hq15 (w.setCell ⟨g, off15 Z r.toNat + i.toNat, none⟩ (.int .i64 v)) B g ra c R (put15 Z r i v) la P := by
  have hr := row15_at (pl15_is hp)
  have hi := pl15_lt hp
  have hZ : put15 Z r i v = Z.set r.toNat ((row15 Z r).set i.toNat v) := by rw [put15, if_pos hp]
  have hus : us15 (put15 Z r i v) = us15 Z := by rw [hZ, us15_set hr]
  have hl : (put15 Z r i v).length = Z.length := len15_put
  have hf : Fr11 (fun j => j = g) w (w.setCell ⟨g, off15 Z r.toNat + i.toNat, none⟩ (.int .i64 v)) := (Fr11.refl (fun j => j = g) w).set (p := ⟨g, off15 Z r.toNat + i.toNat, none⟩) (.inr rfl) _
  refine ⟨?_, ?_, ⟨?_, ?_⟩, ?_, ?_, ?_, h.big, ?_⟩
  · rw [hus, hl]; exact (hf.block _ (Array.getElem?_eq_some_iff.1 h.box).1 h.Bg).trans h.box
  · rw [hl]; exact hf.own h.row (fun j hj => by have e : ra = j := by { simpa [Value.ownBlock] using hj }; rw [← e]; exact h.rg)
  · rw [hl]; exact h.sl.1
  · intro k z hz
    rw [hZ] at hz ⊢
    rw [off15_set hr]
    by_cases e : r.toNat = k
    · subst e
      rw [List.getElem?_set_self (List.getElem?_eq_some_iff.1 hr).1] at hz
      injection hz with hz
      subst hz
      rw [List.length_set]
      exact h.sl.2 _ _ hr
    · rw [List.getElem?_set_ne e] at hz
      exact h.sl.2 k z hz
  · rw [hus]; exact h.la
  · rw [hZ, ← wz15_set hr hi]; exact h.wd.put _ _
  · rw [hus]; exact h.room
  · rw [hZ]
    by_cases e : r.toNat = 0
    · rw [e, h.zero] at hr
      injection hr with hr
      rw [← hr] at hi
      cases hi
    · rw [List.getElem?_set_ne e]; exact h.zero
theorem Hq15.word (h : Hq15 w B g ra c R Z la P) {r i : Int} (hp : pl15 Z r i = true) : w.cell? ⟨g, off15 Z r.toNat + i.toNat, none⟩ = some (.int .i64 (at15 Z r i)) := by
  have hi := pl15_lt hp
  refine h.wd.cell ?_
  rw [wz15_at (row15_at (pl15_is hp)) hi, at15, if_pos hp, List.getElem?_eq_getElem hi]
  rfl
end
theorem atN_v (v : Value) (r i : Int) (w : World) (h : No15 w v) : Calls Try.prog 13 #[v, .int .i64 r, .int .i64 i] w fun e w' => e = .returned (.tuple #[.int .i64 0, .bool false]) ∧ w' = w := by
  have HM := Lib.hid (wordN_v v r i w h)
  go_enter Try.func13, Try.ntmps13
  go_wp2_with fail
  refine HM.out.mono ?_
  rintro e w1 ⟨rfl, rfl⟩
  go_wp2_with fail
  go_ret2
  exact ⟨rfl, rfl⟩
theorem putN_v (v : Value) (r i x : Int) (w : World) (h : No15 w v) : Calls Try.prog 11 #[v, .int .i64 r, .int .i64 i, .int .i64 x] w fun e w' => e = .returned (.bool false) ∧ w' = w := by
  have HM := Lib.hid (wordN_v v r i w h)
  go_enter Try.func11, Try.ntmps11
  go_wp2_with fail
  refine HM.out.mono ?_
  rintro e w1 ⟨rfl, rfl⟩
  go_wp2_with fail
  go_ret
  exact ⟨rfl, rfl⟩
theorem lenN_v (v : Value) (r : Int) (w : World) (h : No15 w v) : Calls Try.prog 15 #[v, .int .i64 r] w fun e w' => e = .returned (.tuple #[.int .i64 0, .bool false]) ∧ w' = w := by
  have HM := Lib.hid (arrayN_v v r w h)
  go_enter Try.func15, Try.ntmps15
  go_wp2_with fail
  refine HM.out.mono ?_
  rintro e w1 ⟨rfl, rfl⟩
  go_wp2_with fail
  go_ret2
  exact ⟨rfl, rfl⟩
theorem at15_v (X : Nat → Prop) (B R : Nat) (Z : List (List Int)) (r i : Int) (w : World) (h : Hp15 X w B R Z) (hz : Z.length ≤ 100000) :
    Calls Try.prog 13 #[.pointer (some ⟨B, 0, none⟩), .int .i64 r, .int .i64 i] w fun e w' => e = .returned (.tuple #[.int .i64 (at15 Z r i), .bool (pl15 Z r i)]) ∧ w' = w := by
  obtain ⟨g, ra, c, la, P, h, -⟩ := h
  have HM := Lib.hid (word_v B g ra c R Z la P r i w h hz)
  have H := Lib.hid h
  clear h
  go_enter Try.func13, Try.ntmps13
  go_wp2_with fail
  refine HM.out.mono ?_
  rintro e w1 ⟨rfl, rfl⟩
  cases hp : pl15 Z r i with
  | true =>
    have HP := Lib.hid hp
    have hc := H.out.word hp
    rw [show wo15 g Z r i = some ⟨g, off15 Z r.toNat + i.toNat, none⟩ from by rw [wo15, if_pos hp]]
    generalize off15 Z r.toNat + i.toNat = o at hc ⊢
    obtain ⟨x, hx⟩ : ∃ x, at15 Z r i = x := ⟨_, rfl⟩
    have HX := Lib.hid hx
    rw [hx] at hc
    clear hp hx
    go_wp2_with fail
    go_ret2
    rw [HX.out, HP.out]
    exact ⟨rfl, rfl⟩
  | false =>
    have HP := Lib.hid hp
    rw [show wo15 g Z r i = none from by rw [wo15, if_neg (by rw [hp]; decide)]]
    have HX : Hid (at15 Z r i = 0) := by rw [Hid, at15, if_neg (by rw [hp]; decide)]
    clear hp
    go_wp2_with fail
    go_ret2
    rw [HX.out, HP.out]
    exact ⟨rfl, rfl⟩
theorem put15_v (X : Nat → Prop) (B R : Nat) (Z : List (List Int)) (r i x : Int) (w : World) (h : Hp15 X w B R Z) (hz : Z.length ≤ 100000) :
    Calls Try.prog 11 #[.pointer (some ⟨B, 0, none⟩), .int .i64 r, .int .i64 i, .int .i64 x] w fun e w' => e = .returned (.bool (pl15 Z r i)) ∧ Hp15 X w' B R (put15 Z r i x) ∧ Fr11 X w w' := by
  obtain ⟨g, ra, c, la, P, h, h1, h2, h3, h4⟩ := h
  have HM := Lib.hid (word_v B g ra c R Z la P r i w h hz)
  have H := Lib.hid h
  have H4 := Lib.hid h4
  clear h h4
  go_enter Try.func11, Try.ntmps11
  go_wp2_with fail
  refine HM.out.mono ?_
  rintro e w1 ⟨rfl, rfl⟩
  cases hp : pl15 Z r i with
  | true =>
    have HP := Lib.hid hp
    have hc := H.out.word hp
    have hfz := H.out.wd.froz (off15 Z r.toNat + i.toNat)
    have HZ := Lib.hid (H.out.put (v := x) hp)
    rw [show wo15 g Z r i = some ⟨g, off15 Z r.toNat + i.toNat, none⟩ from by rw [wo15, if_pos hp]]
    generalize off15 Z r.toNat + i.toNat = o at hc hfz HZ ⊢
    clear hp
    go_wp2_with fail
    go_ret
    rw [HP.out]
    exact ⟨rfl, ⟨g, ra, c, la, P, HZ.out, h1, h2, h3, fun j hj => by simpa using H4.out j hj⟩, (Fr11.refl _ _).set (.inr h2) _⟩
  | false =>
    have HP := Lib.hid hp
    rw [show wo15 g Z r i = none from by rw [wo15, if_neg (by rw [hp]; decide)]]
    have HX : Hid (put15 Z r i x = Z) := by rw [Hid, put15, if_neg (by rw [hp]; decide)]
    clear hp
    go_wp2_with fail
    go_ret
    rw [HX.out, HP.out]
    exact ⟨rfl, ⟨g, ra, c, la, P, H.out, h1, h2, h3, H4.out⟩, Fr11.refl _ _⟩
theorem len15_v (X : Nat → Prop) (B R : Nat) (Z : List (List Int)) (r : Int) (w : World) (h : Hp15 X w B R Z) (hz : Z.length ≤ 100000) :
    Calls Try.prog 15 #[.pointer (some ⟨B, 0, none⟩), .int .i64 r] w fun e w' => e = .returned (.tuple #[.int .i64 ((row15 Z r).length : Int), .bool (is15 Z r)]) ∧ w' = w := by
  obtain ⟨g, ra, c, la, P, h, -⟩ := h
  have HM := Lib.hid (array_v B g ra c R Z la P r w h hz)
  clear h
  go_enter Try.func15, Try.ntmps15
  go_wp2_with fail
  refine HM.out.mono ?_
  rintro e w1 ⟨a, rfl, -, rfl⟩
  go_wp2_with fail
  go_ret2
  exact ⟨rfl, rfl⟩
end Go.Proofs.Ytibiocjdkndnhaa
