/-
  Layer 15: the program's New and Make.
-/
import Derived.Test.YtibiocjdkndnhaaYd
namespace Go.Proofs.Ytibiocjdkndnhaa
open Go.RowKit
set_option maxRecDepth 100000
set_option linter.unusedSimpArgs false
set_option linter.unusedVariables false

/-- A heap that was just made. -/
theorem hp15_new {w wb : World} {n g ra : Nat} (hR : Boxed wb ra 43 (.slice none 0 0)) (hW : Wd15 wb g (List.replicate n 0)) (hn : n ≤ 1024) (h1 : w.heap.size ≤ ra) (h2 : w.heap.size ≤ g) (hb : Below w.heap.size w wb) :
    ∃ X, Hp15 X (wb.alloc (.cells #[.pointer (some ⟨wb.heap.size, 0, none⟩), .slice (some ⟨ra, 0, none⟩) 1 1, .slice (some ⟨g, 0, none⟩) n n] 45)) wb.heap.size n [[]] ∧
      Below w.heap.size w (wb.alloc (.cells #[.pointer (some ⟨wb.heap.size, 0, none⟩), .slice (some ⟨ra, 0, none⟩) 1 1, .slice (some ⟨g, 0, none⟩) n n] 45)) ∧ ∀ j, X j → w.heap.size ≤ j := by
  have hf : Fr11 (fun _ => False) wb (wb.alloc (.cells #[.pointer (some ⟨wb.heap.size, 0, none⟩), .slice (some ⟨ra, 0, none⟩) 1 1, .slice (some ⟨g, 0, none⟩) n n] 45)) :=
    (Fr11.refl _ wb).alloc _
  have hlr := hR.lt
  have hlg := hW.lt
  have hbs := hb.size
  refine ⟨fun j => w.heap.size ≤ j ∧ j < wb.heap.size + 1, ⟨g, ra, 1, ⟨g, 0, none⟩, [.slice none 0 0], ⟨?_, ?_, ⟨rfl, ?_⟩, fun _ => rfl, ?_, Nat.zero_le _, hn, rfl⟩, ⟨by omega, by omega⟩, ⟨by omega, by omega⟩, ⟨by omega, by omega⟩, fun j hj => by simp; omega⟩, hb.alloc hbs _, fun j hj => hj.1⟩
  · exact World.alloc_heap_new wb _
  · have h0 := hf.box hR id
    refine ⟨rfl, .inr ⟨ra, 1, #[.slice none 0 0], rfl, Nat.zero_le _, h0, Nat.le_refl _, by unfold maxLen; omega, rfl, rfl⟩⟩
  · intro k z hz
    match k, hz with
    | 0, hz =>
      simp at hz
      subst hz
      exact ⟨none, rfl, fun h => (by cases h)⟩
  · have h0 := hW.fr hf id
    have e : wz15 n [[]] = List.replicate n 0 := by simp [wz15, us15]
    rw [e]
    exact h0
/-- A heap whose row got one more, and whose words left are fewer. -/
theorem hp15_make {X : Nat → Prop} {w w9 : World} {A' : Option Addr} {B g ra R c c' n : Nat} {Z : List (List Int)} {la : Addr} {P : List Value} (h : Hq15 w B g ra c R Z la P) (h1 : X B) (h2 : X g) (h3 : X ra) (h4 : ∀ j, X j → j < w.heap.size) (hn : us15 Z + n ≤ R)
    (hf : Fr11 (fun j => j = ra) w w9) (ho : w9.ownsRow 0 43 1 (.slice A' (Z.length + 1) c') (Z.length + 1) (P ++ [Value.slice (some la) n n]))
    (hb : (Value.slice A' (Z.length + 1) c').ownBlock = some ra ∨ ∃ q, w.heap.size ≤ q ∧ (Value.slice A' (Z.length + 1) c').ownBlock = some q) :
    w9.heap[B]? = some (.cells #[.pointer (some ⟨B, 0, none⟩), .slice (some ⟨ra, 0, none⟩) Z.length c, .slice (some la) (R - us15 Z) (R - us15 Z)] 45 (0, 0)) ∧
    ∃ X', Hp15 X' ((w9.setCell ⟨B, 1, none⟩ (.slice A' (Z.length + 1) c')).setCell ⟨B, 2, none⟩ (.slice (some (if R - us15 Z = n then la else la.add n)) (R - us15 Z - n) (R - us15 Z - n))) B R (Z ++ [List.replicate n 0]) ∧
      Fr11 X w ((w9.setCell ⟨B, 1, none⟩ (.slice A' (Z.length + 1) c')).setCell ⟨B, 2, none⟩ (.slice (some (if R - us15 Z = n then la else la.add n)) (R - us15 Z - n) (R - us15 Z - n))) ∧ ∀ j, X' j → X j ∨ w.heap.size ≤ j := by
  have hB9 := (hf.block _ (Array.getElem?_eq_some_iff.1 h.box).1 (fun e => h.rB e.symm)).trans h.box
  have hus : us15 (Z ++ [List.replicate n 0]) = us15 Z + n := by rw [us15_snoc, List.length_replicate]
  obtain ⟨ra', c9, hA⟩ := ownsRow_succ ho
  injection hA with hA1 hA2 hA3
  subst hA1 hA3
  have hx' : X ra' ∨ w.heap.size ≤ ra' := by
    rcases hb with hb | ⟨q, hq, hb⟩
    · have e : ra' = ra := by simpa [Value.ownBlock] using hb
      rw [e]; exact .inl h3
    · have e : ra' = q := by simpa [Value.ownBlock] using hb
      exact .inr (by omega)
  obtain ⟨cur, hty⟩ := own_ty15 ho
  have hrB : ra' ≠ B := fun e => by
    rw [e] at hty
    have := hB9.symm.trans hty
    simp at this
  have hs : Fr11 (fun j => j = B) w9 ((w9.setCell ⟨B, 1, none⟩ (.slice (some ⟨ra', 0, none⟩) (Z.length + 1) c')).setCell ⟨B, 2, none⟩ (.slice (some (if R - us15 Z = n then la else la.add n)) (R - us15 Z - n) (R - us15 Z - n))) :=
    ((Fr11.refl (fun j => j = B) w9).set (p := ⟨B, 1, none⟩) (.inr rfl) _).set (p := ⟨B, 2, none⟩) (.inr rfl) _
  refine ⟨hB9, fun j => X j ∨ (w.heap.size ≤ j ∧ j < w9.heap.size), ⟨g, ra', c', if R - us15 Z = n then la else la.add n, P ++ [Value.slice (some la) n n], ⟨?_, ?_, ⟨?_, ?_⟩, ?_, ?_, ?_, h.big, ?_⟩, .inl h1, .inl h2, hx'.imp id fun h => ⟨h, (Array.getElem?_eq_some_iff.1 hty).1⟩, fun j hj => ?_⟩, ?_, fun j hj => hj.imp id And.left⟩
  · rw [heap_setCell_same _ _ 2 _ _ _ (heap_setCell_same w9 B 1 _ _ _ hB9), hus, List.length_append, Nat.sub_add_eq]
    rfl
  · have h0 := hs.own ho (fun j hj => by have e : ra' = j := by { simpa [Value.ownBlock] using hj }; rw [← e]; exact hrB)
    rw [List.length_append]
    exact h0
  · rw [List.length_append, List.length_append, h.sl.1]
    rfl
  · intro k z hz
    by_cases e : k < Z.length
    · rw [List.getElem?_append_left e] at hz
      rw [List.getElem?_append_left (by rw [h.sl.1]; exact e), off15_snoc (by omega)]
      exact h.sl.2 k z hz
    · have hk := (List.getElem?_eq_some_iff.1 hz).1
      rw [List.length_append, List.length_singleton] at hk
      obtain rfl : k = Z.length := by omega
      rw [List.getElem?_append_right (Nat.le_refl _), Nat.sub_self] at hz
      simp at hz
      subst hz
      rw [List.getElem?_append_right (by rw [h.sl.1]; omega), h.sl.1, Nat.sub_self, List.length_replicate, off15_snoc (Nat.le_refl _), off15_full]
      exact ⟨some la, rfl, fun hp => by rw [h.la (by omega)]⟩
  · rw [hus]
    intro hp
    rw [if_neg (by omega), h.la (by omega), as15]
  · rw [wz15_snoc hn]
    exact (h.wd.fr hf (fun e => h.rg e.symm)).fr hs (fun e => h.Bg e.symm)
  · rw [hus]; exact hn
  · rw [List.getElem?_append_left (by have := (List.getElem?_eq_some_iff.1 h.zero).1; omega)]
    exact h.zero
  · simp
    rcases hj with hj | hj
    · exact Nat.lt_of_lt_of_le (h4 j hj) hf.size
    · exact hj.2
  · exact (((hf.mono fun j hj => by rw [hj]; exact h3).set (p := ⟨B, 1, none⟩) (.inr h1) _).set (p := ⟨B, 2, none⟩) (.inr h1) _)
theorem new15_no (x : Int) (w : World) (h : x < 0 ∨ 1024 < x) : Calls Try.prog 7 #[.int .i64 x] w fun e w' => e = .returned (.tuple #[.pointer none, .int .i64 2]) ∧ w' = w := by
  have H := Lib.hid h
  clear h
  by_cases h1 : x < 0
  · go_enter Try.func7, Try.ntmps7
    go_wp2_with fail
    go_ret2
    exact ⟨rfl, rfl⟩
  · have h2 : 1024 < x := by have := H.out; omega
    go_enter Try.func7, Try.ntmps7
    go_wp2_with fail
    go_ret2
    exact ⟨rfl, rfl⟩
theorem maker15_1 (w : World) : (Instr.makeSlice 42 (.int .i64 1) (.int .i64 1)).run Try.prog w = .ok (.slice (some ⟨w.heap.size, 0, none⟩) 1 1) (w.alloc (.cells #[.slice none 0 0] 43)) := by
  have h := maker15 1 (by omega) w
  exact h
theorem new15_v (n : Nat) (w : World) (h3 : n ≤ 1024) : Calls Try.prog 7 #[.int .i64 n] w fun e w' =>
    ∃ B X, e = .returned (.tuple #[.pointer (some ⟨B, 0, none⟩), .int .i64 0]) ∧ Hp15 X w' B n [[]] ∧ Below w.heap.size w w' ∧ ∀ j, X j → w.heap.size ≤ j := by
  have hm1 := fun w => maker15_1 w
  have hm2 := fun w => make15 n (by omega) w
  go_enter Try.func7, Try.ntmps7
  go_upto_region 3 with (fail)
  refine wp_region_held_drew (S := fun _ => True) (by kernel_rfl) (trivial) (fun hHeld => ?_)
  refine wpAnyH_take (i := 1) (v := ?_) rfl (by kernel_rfl) (by kernel_rfl) (by kernel_rfl) (fun _ _ _ h => h) (Or.inl ⟨by rfl, ?_⟩) (by assumption) ?_
  rotate_left 1
  · intro w _; go_simp; try with_reducible rfl
  try simp only [Act.put, List.getElem_toArray, List.getElem_cons_zero, List.getElem_cons_succ, List.setIfInBounds_toArray, List.set_cons_zero, List.set_cons_succ]
  refine wpAnyH_ready (rs := [0, 2]) (by kernel_rfl) (by simp) ?_
  refine AllReadyH.cons rfl (fun K hK => ?_) ?_
  · skip
    go_simp
    have HBwa : Hid (Below w.heap.size w ((w.alloc (.cells #[.slice none 0 0] 43)).drew)) := Lib.hid (below_draws ((Below.refl _ _).alloc (Nat.le_refl _) _) 1)
    have HRwa : Hid (Boxed ((w.alloc (.cells #[.slice none 0 0] 43)).drew) w.heap.size 43 (.slice none 0 0)) := Lib.hid (Boxed.new w _ _)
    have HPP : Hid (w.heap.size ≤ w.heap.size) := Lib.hid (Nat.le_refl _)
    generalize hwa : ((w.alloc (.cells #[.slice none 0 0] 43)).drew) = wa at HBwa HRwa ⊢
    clear hwa
    obtain ⟨P, hP⟩ : ∃ P, w.heap.size = P := ⟨_, rfl⟩
    have HPP : Hid (w.heap.size ≤ P) := Lib.hid (by omega)
    rw [hP] at HRwa ⊢
    clear hP
    refine hK.out _ _ (trivial) (fun hHeld => ?_)
    clear hK K
    try simp only [Act.put, List.getElem_toArray, List.getElem_cons_zero, List.getElem_cons_succ, List.setIfInBounds_toArray, List.set_cons_zero, List.set_cons_succ]
    refine wpAnyH_ready (rs := [2]) (by kernel_rfl) (by simp) ?_
    refine AllReadyH.cons rfl (fun K hK => ?_) AllReadyH.nil
    go_simp
    have HBwb : Hid (Below w.heap.size w (wa.alloc (.cells (Array.replicate n (.int .i64 0)) 2))) := Lib.hid (HBwa.out.alloc HBwa.out.size _)
    have HWwb : Hid (Wd15 (wa.alloc (.cells (Array.replicate n (.int .i64 0)) 2)) wa.heap.size (List.replicate n 0)) := Lib.hid (wd15_new wa n)
    have HRwb : Hid (Boxed (wa.alloc (.cells (Array.replicate n (.int .i64 0)) 2)) P 43 (.slice none 0 0)) := Lib.hid (HRwa.out.alloc _)
    have HPQ : Hid (w.heap.size ≤ wa.heap.size) := Lib.hid HBwa.out.size
    generalize hwb : (wa.alloc (.cells (Array.replicate n (.int .i64 0)) 2)) = wb at HBwb HRwb HWwb ⊢
    clear hwb
    generalize wa.heap.size = P2 at HWwb HPQ ⊢
    clear HBwa HRwa
    refine hK.out _ _ (trivial) (fun hHeld => ?_)
    clear hK K
    try simp only [Act.put, List.getElem_toArray, List.getElem_cons_zero, List.getElem_cons_succ, List.setIfInBounds_toArray, List.set_cons_zero, List.set_cons_succ]
    refine wpAnyH_take (i := 3) (v := ?_) rfl (by kernel_rfl) (by kernel_rfl) (by kernel_rfl) (fun _ _ _ h => h) (Or.inl ⟨by rfl, ?_⟩) (by assumption) ?_
    rotate_left 1
    · intro w _; go_simp; try with_reducible rfl
    try simp only [Act.put, List.getElem_toArray, List.getElem_cons_zero, List.getElem_cons_succ, List.setIfInBounds_toArray, List.set_cons_zero, List.set_cons_succ]
    refine wpAnyH_ready (rs := [4]) (by kernel_rfl) (by simp) ?_
    refine AllReadyH.cons rfl (fun K hK => ?_) AllReadyH.nil
    go_simp
    have HEND := Lib.hid (hp15_new HRwb.out HWwb.out h3 HPP.out HPQ.out HBwb.out)
    refine hK.out _ _ (trivial) (fun hHeld => ?_)
    clear hK K
    try simp only [Act.put, List.getElem_toArray, List.getElem_cons_zero, List.getElem_cons_succ, List.setIfInBounds_toArray, List.set_cons_zero, List.set_cons_succ]
    refine wpAnyH_take (i := 5) (v := ?_) rfl (by kernel_rfl) (by kernel_rfl) (by kernel_rfl) (fun _ _ _ h => h) (Or.inl ⟨by rfl, ?_⟩) (by assumption) ?_
    rotate_left 1
    · intro w _; go_simp; try with_reducible rfl
    try simp only [Act.put, List.getElem_toArray, List.getElem_cons_zero, List.getElem_cons_succ, List.setIfInBounds_toArray, List.set_cons_zero, List.set_cons_succ]
    refine wpAnyH_done (by kernel_rfl) ?_ _
    clear hHeld
    go_wp2_with fail
    go_ret2
    obtain ⟨X, e1, e2, e3⟩ := HEND.out
    exact ⟨_, X, rfl, e1, e2, e3⟩
  refine AllReadyH.cons rfl (fun K hK => ?_) AllReadyH.nil
  go_simp
  have HBwa : Hid (Below w.heap.size w ((w.alloc (.cells (Array.replicate n (.int .i64 0)) 2)).drew)) := Lib.hid (below_draws ((Below.refl _ _).alloc (Nat.le_refl _) _) 1)
  have HWwa : Hid (Wd15 ((w.alloc (.cells (Array.replicate n (.int .i64 0)) 2)).drew) w.heap.size (List.replicate n 0)) := Lib.hid (wd15_new w n)
  have HPP : Hid (w.heap.size ≤ w.heap.size) := Lib.hid (Nat.le_refl _)
  generalize hwa : ((w.alloc (.cells (Array.replicate n (.int .i64 0)) 2)).drew) = wa at HBwa HWwa ⊢
  clear hwa
  obtain ⟨P, hP⟩ : ∃ P, w.heap.size = P := ⟨_, rfl⟩
  have HPP : Hid (w.heap.size ≤ P) := Lib.hid (by omega)
  rw [hP] at HWwa ⊢
  clear hP
  refine hK.out _ _ (trivial) (fun hHeld => ?_)
  clear hK K
  try simp only [Act.put, List.getElem_toArray, List.getElem_cons_zero, List.getElem_cons_succ, List.setIfInBounds_toArray, List.set_cons_zero, List.set_cons_succ]
  refine wpAnyH_ready (rs := [0]) (by kernel_rfl) (by simp) ?_
  refine AllReadyH.cons rfl (fun K hK => ?_) AllReadyH.nil
  go_simp
  have HBwb : Hid (Below w.heap.size w (wa.alloc (.cells #[.slice none 0 0] 43))) := Lib.hid (HBwa.out.alloc HBwa.out.size _)
  have HRwb : Hid (Boxed (wa.alloc (.cells #[.slice none 0 0] 43)) wa.heap.size 43 (.slice none 0 0)) := Lib.hid (Boxed.new wa _ _)
  have HWwb : Hid (Wd15 (wa.alloc (.cells #[.slice none 0 0] 43)) P (List.replicate n 0)) := Lib.hid (HWwa.out.fr ((Fr11.refl (fun _ => False) _).alloc _) id)
  have HPQ : Hid (w.heap.size ≤ wa.heap.size) := Lib.hid HBwa.out.size
  generalize hwb : (wa.alloc (.cells #[.slice none 0 0] 43)) = wb at HBwb HRwb HWwb ⊢
  clear hwb
  generalize wa.heap.size = P2 at HRwb HPQ ⊢
  clear HBwa HWwa
  refine hK.out _ _ (trivial) (fun hHeld => ?_)
  clear hK K
  try simp only [Act.put, List.getElem_toArray, List.getElem_cons_zero, List.getElem_cons_succ, List.setIfInBounds_toArray, List.set_cons_zero, List.set_cons_succ]
  refine wpAnyH_take (i := 3) (v := ?_) rfl (by kernel_rfl) (by kernel_rfl) (by kernel_rfl) (fun _ _ _ h => h) (Or.inl ⟨by rfl, ?_⟩) (by assumption) ?_
  rotate_left 1
  · intro w _; go_simp; try with_reducible rfl
  try simp only [Act.put, List.getElem_toArray, List.getElem_cons_zero, List.getElem_cons_succ, List.setIfInBounds_toArray, List.set_cons_zero, List.set_cons_succ]
  refine wpAnyH_ready (rs := [4]) (by kernel_rfl) (by simp) ?_
  refine AllReadyH.cons rfl (fun K hK => ?_) AllReadyH.nil
  go_simp
  have HEND := Lib.hid (hp15_new HRwb.out HWwb.out h3 HPQ.out HPP.out HBwb.out)
  refine hK.out _ _ (trivial) (fun hHeld => ?_)
  clear hK K
  try simp only [Act.put, List.getElem_toArray, List.getElem_cons_zero, List.getElem_cons_succ, List.setIfInBounds_toArray, List.set_cons_zero, List.set_cons_succ]
  refine wpAnyH_take (i := 5) (v := ?_) rfl (by kernel_rfl) (by kernel_rfl) (by kernel_rfl) (fun _ _ _ h => h) (Or.inl ⟨by rfl, ?_⟩) (by assumption) ?_
  rotate_left 1
  · intro w _; go_simp; try with_reducible rfl
  try simp only [Act.put, List.getElem_toArray, List.getElem_cons_zero, List.getElem_cons_succ, List.setIfInBounds_toArray, List.set_cons_zero, List.set_cons_succ]
  refine wpAnyH_done (by kernel_rfl) ?_ _
  clear hHeld
  go_wp2_with fail
  go_ret2
  obtain ⟨X, e1, e2, e3⟩ := HEND.out
  exact ⟨_, X, rfl, e1, e2, e3⟩
theorem made15_t {w : World} {B g ra c R : Nat} {Z : List (List Int)} {la : Addr} {P : List Value} (h : Hq15 w B g ra c R Z la P) : Calls Try.prog 20 #[.pointer (some ⟨B, 0, none⟩)] w fun e w' => e = .returned (.bool true) ∧ w' = w := made15_v _ true w (.inl ⟨rfl, B, rfl, h.c0⟩)
theorem makeN_v (v : Value) (x : Int) (w : World) (h : No15 w v) : Calls Try.prog 9 #[v, .int .i64 x] w fun e w' => e = .returned (.tuple #[.int .i64 0, .int .i64 1]) ∧ w' = w := by
  have HM := Lib.hid (made15_v v false w (.inr ⟨rfl, h⟩))
  go_enter Try.func9, Try.ntmps9
  go_wp2_with fail
  refine HM.out.mono ?_
  rintro e w1 ⟨rfl, rfl⟩
  go_wp2_with fail
  go_ret2
  exact ⟨rfl, rfl⟩
theorem cut15_a (la : Addr) (m n : Nat) (h : n ≤ m) (wx : World) : (Instr.slice 43 (.slice (some la) m m) none (some (.int .i64 (n : Int))) (some (.int .i64 (n : Int)))).run Try.prog wx = .ok (.slice (some la) n n) wx := by
  have := run_slice_hm (P := Try.prog) wx 43 (some la) m m Try.underlying43 .i64 .i64 (n : Int) (n : Int) (by omega) (by omega) (by omega)
  have hsz : (sizeOf (Try.prog.elem 43)).run Try.prog wx = .ok 1 wx := by kernel_rfl
  rw [this, hsz]
  simp [Result.andThen, sliced, Addr.add]
theorem cut15_b (la : Addr) (m n : Nat) (h : n ≤ m) (wx : World) : (Instr.slice 43 (.slice (some la) m m) (some (.int .i64 (n : Int))) none none).run Try.prog wx = .ok (.slice (some (if m = n then la else la.add n)) (m - n) (m - n)) wx := by
  have := run_slice_l (P := Try.prog) wx 43 (some la) m m Try.underlying43 .i64 (n : Int) (by omega) (by omega)
  have hsz : (sizeOf (Try.prog.elem 43)).run Try.prog wx = .ok 1 wx := by kernel_rfl
  rw [this, hsz]
  by_cases e : m = n <;> simp [Result.andThen, sliced, e]
set_option maxHeartbeats 4000000 in
theorem make15_v (X : Nat → Prop) (B R : Nat) (Z : List (List Int)) (x : Int) (w : World) (h : Hp15 X w B R Z) (hl : Z.length ≤ 99999) :
    Calls Try.prog 9 #[.pointer (some ⟨B, 0, none⟩), .int .i64 x] w fun e w' => e = .returned (.tuple #[.int .i64 (mkN15 R Z x), .int .i64 (mkE15 R Z x)]) ∧ ∃ X', Hp15 X' w' B R (mkZ15 R Z x) ∧ Fr11 X w w' ∧ ∀ j, X' j → X j ∨ w.heap.size ≤ j := by
  have HH := Lib.hid h
  obtain ⟨g, ra, c, la, P, hq, h1, h2, h3, h4⟩ := h
  have HM := Lib.hid (made15_t hq)
  have HQ := Lib.hid hq
  have HX4 := Lib.hid h4
  clear hq h4
  by_cases h0 : x < 0 ∨ 1024 < x
  · have HE := Lib.hid (mk15_big (R := R) (Z := Z) h0)
    have HG : Hid (mkZ15 R Z x = Z) := by rw [Hid, mkZ15, HE.out, if_neg (by decide)]
    have HN : Hid (mkN15 R Z x = 0) := by rw [Hid, mkN15, HE.out, if_neg (by decide)]
    by_cases h1 : x < 0
    · clear h0
      go_enter Try.func9, Try.ntmps9
      go_wp2_with fail
      refine HM.out.mono ?_
      rintro e w1 ⟨rfl, rfl⟩
      go_wp2_with fail
      go_ret2
      rw [HE.out, HN.out, HG.out]
      exact ⟨rfl, X, HH.out, Fr11.refl _ _, fun _ => .inl⟩
    · have h2 : 1024 < x := by omega
      clear h0
      go_enter Try.func9, Try.ntmps9
      go_wp2_with fail
      refine HM.out.mono ?_
      rintro e w1 ⟨rfl, rfl⟩
      go_wp2_with fail
      go_ret2
      rw [HE.out, HN.out, HG.out]
      exact ⟨rfl, X, HH.out, Fr11.refl _ _, fun _ => .inl⟩
  · have H0 := Lib.hid h0
    obtain ⟨n, rfl⟩ : ∃ n : Nat, x = (n : Int) := ⟨x.toNat, by omega⟩
    have hn1 : n ≤ 1024 := by omega
    have c1 := HQ.out.c1
    have c2 := HQ.out.c2
    have hRb := HQ.out.big
    have hroom := HQ.out.room
    obtain ⟨zl, hzl⟩ : ∃ zl, Z.length = zl := ⟨_, rfl⟩
    obtain ⟨m, hm⟩ : ∃ m, R - us15 Z = m := ⟨_, rfl⟩
    have HZL := Lib.hid hzl
    have HMM := Lib.hid hm
    rw [hzl] at c1 hl
    rw [hm] at c2
    have hm9 : m ≤ 1024 := by omega
    have HRO := Lib.hid hroom
    clear hzl hm h0 hroom hRb
    go_enter Try.func9, Try.ntmps9
    go_wp2_with fail
    refine HM.out.mono ?_
    rintro e w1 ⟨rfl, rfl⟩
    by_cases h5 : m < n
    · have HE := Lib.hid (mk15_full (R := R) (Z := Z) (n := n) H0.out (by have := HMM.out; have := HRO.out; omega))
      have HG : Hid (mkZ15 R Z n = Z) := by rw [Hid, mkZ15, HE.out, if_neg (by decide)]
      have HN : Hid (mkN15 R Z n = 0) := by rw [Hid, mkN15, HE.out, if_neg (by decide)]
      go_wp2_with fail
      go_ret2
      rw [HE.out, HN.out, HG.out]
      exact ⟨rfl, X, HH.out, Fr11.refl _ _, fun _ => .inl⟩
    · have HE := Lib.hid (mk15_ok (R := R) (Z := Z) (n := n) H0.out (by have := HMM.out; have := HRO.out; omega))
      have HG : Hid (mkZ15 R Z n = Z ++ [List.replicate n 0]) := by rw [Hid, mkZ15, HE.out, if_pos rfl]; rfl
      have HN : Hid (mkN15 R Z n = zl) := by rw [Hid, mkN15, HE.out, if_pos rfl, HZL.out]
      have hca := cut15_a la m n (by omega)
      have hcb := cut15_b la m n (by omega)
      obtain ⟨lb, hlb⟩ : ∃ lb, (if m = n then la else la.add n) = lb := ⟨_, rfl⟩
      have HLB := Lib.hid hlb
      rw [hlb] at hcb
      have hwz : IntKind.i64.wrap (((zl + 1 : Nat) : Int) - 1) = zl := by rw [IntKind.wrap_i64]; omega
      clear hlb
      go_upto_region 7 with (fail)
      refine wp_region_L [23, 26] (S := fun w' => w'.cell? ⟨B, 1, none⟩ = some (.slice (some ⟨ra, 0, none⟩) zl c) ∧ w'.cell? ⟨B, 2, none⟩ = some (.slice (some la) m m)) (by kernel_rfl) (⟨c1, c2⟩) (fun hHeld => ?_)
      refine wpL_reckon (i := 0) (v := ?_) rfl (by kernel_rfl) (fun _ _ _ h => h) (Or.inl ⟨by rfl, ?_⟩) (Or.inr (by assumption)) ?_
      rotate_left 1
      · intro w _; go_simp; try with_reducible rfl
      try simp only [Act.put, List.getElem_toArray, List.getElem_cons_zero, List.getElem_cons_succ, List.setIfInBounds_toArray, List.set_cons_zero, List.set_cons_succ]
      refine wpL_reckon (i := 1) (v := ?_) rfl (by kernel_rfl) (fun _ _ _ h => h) (Or.inl ⟨by rfl, ?_⟩) (Or.inr (by assumption)) ?_
      rotate_left 1
      · intro w _; go_simp; try with_reducible rfl
      try simp only [Act.put, List.getElem_toArray, List.getElem_cons_zero, List.getElem_cons_succ, List.setIfInBounds_toArray, List.set_cons_zero, List.set_cons_succ]
      refine wpL_reckon (i := 2) (v := ?_) rfl (by kernel_rfl) (fun _ _ _ h => h) (Or.inl ⟨by rfl, ?_⟩) (Or.inr (by assumption)) ?_
      rotate_left 1
      · intro w _; go_simp; try with_reducible rfl
      try simp only [Act.put, List.getElem_toArray, List.getElem_cons_zero, List.getElem_cons_succ, List.setIfInBounds_toArray, List.set_cons_zero, List.set_cons_succ]
      refine wpL_reckon (i := 3) (v := ?_) rfl (by kernel_rfl) (fun _ _ _ h => h) (Or.inl ⟨by rfl, ?_⟩) (Or.inr (by assumption)) ?_
      rotate_left 1
      · intro w _; go_simp; try with_reducible rfl
      try simp only [Act.put, List.getElem_toArray, List.getElem_cons_zero, List.getElem_cons_succ, List.setIfInBounds_toArray, List.set_cons_zero, List.set_cons_succ]
      refine wpL_reckon (i := 4) (v := ?_) rfl (by kernel_rfl) (fun _ _ _ h => h) (Or.inl ⟨by rfl, ?_⟩) (Or.inr (by assumption)) ?_
      rotate_left 1
      · intro w _; go_simp; try with_reducible rfl
      try simp only [Act.put, List.getElem_toArray, List.getElem_cons_zero, List.getElem_cons_succ, List.setIfInBounds_toArray, List.set_cons_zero, List.set_cons_succ]
      refine wpL_take (i := 5) (v := ?_) rfl (by kernel_rfl) (fun _ _ _ h => h) (Or.inl ⟨by rfl, ?_⟩) (by assumption) ?_
      rotate_left 1
      · intro w hSw; (try dsimp only at hSw); obtain ⟨s1, s2⟩ := hSw; go_simp; try with_reducible rfl
      try simp only [Act.put, List.getElem_toArray, List.getElem_cons_zero, List.getElem_cons_succ, List.setIfInBounds_toArray, List.set_cons_zero, List.set_cons_succ]
      refine wpL_reckon (i := 6) (v := ?_) rfl (by kernel_rfl) (fun _ _ _ h => h) (Or.inl ⟨by rfl, ?_⟩) (Or.inr (by assumption)) ?_
      rotate_left 1
      · intro w _; go_simp; try with_reducible rfl
      try simp only [Act.put, List.getElem_toArray, List.getElem_cons_zero, List.getElem_cons_succ, List.setIfInBounds_toArray, List.set_cons_zero, List.set_cons_succ]
      refine wpL_reckon (i := 7) (v := ?_) rfl (by kernel_rfl) (fun _ _ _ h => h) (Or.inl ⟨by rfl, ?_⟩) (Or.inr (by assumption)) ?_
      rotate_left 1
      · intro w _; go_simp; try with_reducible rfl
      try simp only [Act.put, List.getElem_toArray, List.getElem_cons_zero, List.getElem_cons_succ, List.setIfInBounds_toArray, List.set_cons_zero, List.set_cons_succ]
      refine wpL_reckon (i := 8) (v := ?_) rfl (by kernel_rfl) (fun _ _ _ h => h) (Or.inl ⟨by rfl, ?_⟩) (Or.inr (by assumption)) ?_
      rotate_left 1
      · intro w _; go_simp; try with_reducible rfl
      try simp only [Act.put, List.getElem_toArray, List.getElem_cons_zero, List.getElem_cons_succ, List.setIfInBounds_toArray, List.set_cons_zero, List.set_cons_succ]
      refine wpL_take (i := 9) (v := ?_) rfl (by kernel_rfl) (fun _ _ _ h => h) (Or.inl ⟨by rfl, ?_⟩) (by assumption) ?_
      rotate_left 1
      · intro w hSw; (try dsimp only at hSw); obtain ⟨s1, s2⟩ := hSw; go_simp; try with_reducible rfl
      try simp only [Act.put, List.getElem_toArray, List.getElem_cons_zero, List.getElem_cons_succ, List.setIfInBounds_toArray, List.set_cons_zero, List.set_cons_succ]
      refine wpL_reckon (i := 10) (v := ?_) rfl (by kernel_rfl) (fun _ _ _ h => h) (Or.inl ⟨by rfl, ?_⟩) (Or.inr (by assumption)) ?_
      rotate_left 1
      · intro w _; go_simp; try with_reducible rfl
      try simp only [Act.put, List.getElem_toArray, List.getElem_cons_zero, List.getElem_cons_succ, List.setIfInBounds_toArray, List.set_cons_zero, List.set_cons_succ]
      refine wpL_reckon (i := 11) (v := ?_) rfl (by kernel_rfl) (fun _ _ _ h => h) (Or.inl ⟨by rfl, ?_⟩) (Or.inr (by assumption)) ?_
      rotate_left 1
      · intro w _; go_simp; try with_reducible rfl
      try simp only [Act.put, List.getElem_toArray, List.getElem_cons_zero, List.getElem_cons_succ, List.setIfInBounds_toArray, List.set_cons_zero, List.set_cons_succ]
      refine wpL_reckon (i := 12) (v := ?_) rfl (by kernel_rfl) (fun _ _ _ h => h) (Or.inl ⟨by rfl, ?_⟩) (Or.inr (by assumption)) ?_
      rotate_left 1
      · intro w _; go_simp; try with_reducible rfl
      try simp only [Act.put, List.getElem_toArray, List.getElem_cons_zero, List.getElem_cons_succ, List.setIfInBounds_toArray, List.set_cons_zero, List.set_cons_succ]
      refine wpL_reckon (i := 15) (v := ?_) rfl (by kernel_rfl) (fun _ _ _ h => h) (Or.inl ⟨by rfl, ?_⟩) (Or.inr (by assumption)) ?_
      rotate_left 1
      · intro w _; go_simp; try with_reducible rfl
      try simp only [Act.put, List.getElem_toArray, List.getElem_cons_zero, List.getElem_cons_succ, List.setIfInBounds_toArray, List.set_cons_zero, List.set_cons_succ]
      refine wpL_reckon (i := 16) (v := ?_) rfl (by kernel_rfl) (fun _ _ _ h => h) (Or.inl ⟨by rfl, ?_⟩) (Or.inr (by assumption)) ?_
      rotate_left 1
      · intro w _; go_simp; try with_reducible rfl
      try simp only [Act.put, List.getElem_toArray, List.getElem_cons_zero, List.getElem_cons_succ, List.setIfInBounds_toArray, List.set_cons_zero, List.set_cons_succ]
      refine wpL_reckon (i := 17) (v := ?_) rfl (by kernel_rfl) (fun _ _ _ h => h) (Or.inl ⟨by rfl, ?_⟩) (Or.inr (by assumption)) ?_
      rotate_left 1
      · intro w _; go_simp; try with_reducible rfl
      try simp only [Act.put, List.getElem_toArray, List.getElem_cons_zero, List.getElem_cons_succ, List.setIfInBounds_toArray, List.set_cons_zero, List.set_cons_succ]
      refine wpL_take (i := 18) (v := ?_) rfl (by kernel_rfl) (fun _ _ _ h => h) (Or.inl ⟨by rfl, ?_⟩) (by assumption) ?_
      rotate_left 1
      · intro w hSw; (try dsimp only at hSw); obtain ⟨s1, s2⟩ := hSw; go_simp; try with_reducible rfl
      try simp only [Act.put, List.getElem_toArray, List.getElem_cons_zero, List.getElem_cons_succ, List.setIfInBounds_toArray, List.set_cons_zero, List.set_cons_succ]
      refine wpL_reckon (i := 19) (v := ?_) rfl (by kernel_rfl) (fun _ _ _ h => h) (Or.inl ⟨by rfl, ?_⟩) (Or.inr (by assumption)) ?_
      rotate_left 1
      · intro w _; go_simp; try with_reducible rfl
      try simp only [Act.put, List.getElem_toArray, List.getElem_cons_zero, List.getElem_cons_succ, List.setIfInBounds_toArray, List.set_cons_zero, List.set_cons_succ]
      refine wpL_reckon (i := 20) (v := ?_) rfl (by kernel_rfl) (fun _ _ _ h => h) (Or.inl ⟨by rfl, ?_⟩) (Or.inr (by assumption)) ?_
      rotate_left 1
      · intro w _; go_simp; try with_reducible rfl
      try simp only [Act.put, List.getElem_toArray, List.getElem_cons_zero, List.getElem_cons_succ, List.setIfInBounds_toArray, List.set_cons_zero, List.set_cons_succ]
      refine wpL_ready (rs := [13]) (by kernel_rfl) (by simp) ?_
      refine AllL.cons rfl (fun K hK => ?_) AllL.nil
      go_simp
      have HF2 : Hid (Fr11 (fun _ => False) w1 (w1.alloc (.cells #[.slice (some la) n n] 43)).drew) := Lib.hid (((Fr11.refl _ _).alloc _).drewN 1)
      have c1b : (w1.alloc (.cells #[.slice (some la) n n] 43)).drew.cell? ⟨B, 1, none⟩ = some (.slice (some ⟨ra, 0, none⟩) zl c) := (World.cell?_of_block (HF2.out.block _ (cell_lt c1) id)).trans c1
      have c2b : (w1.alloc (.cells #[.slice (some la) n n] 43)).drew.cell? ⟨B, 2, none⟩ = some (.slice (some la) m m) := (World.cell?_of_block (HF2.out.block _ (cell_lt c2) id)).trans c2
      have hc2 : (w1.alloc (.cells #[.slice (some la) n n] 43)).drew.cell? ⟨w1.heap.size, 0, none⟩ = some (.slice (some la) n n) := by simp [go_sem]
      have HS2 : Hid (w1.heap.size ≤ (w1.alloc (.cells #[.slice (some la) n n] 43)).drew.heap.size) := Lib.hid HF2.out.size
      generalize (w1.alloc (.cells #[.slice (some la) n n] 43)).drew = wb at HF2 c1b c2b hc2 HS2 ⊢
      generalize hP2 : (w1.heap.size : Nat) = P2 at hc2 ⊢
      clear hP2
      refine hK.out _ _ (⟨c1b, c2b⟩) (fun hHeld => ?_)
      clear hK K
      try simp only [Act.put, List.getElem_toArray, List.getElem_cons_zero, List.getElem_cons_succ, List.setIfInBounds_toArray, List.set_cons_zero, List.set_cons_succ]
      refine wpL_ready (rs := [14]) (by kernel_rfl) (by simp) ?_
      refine AllL.cons rfl (fun K hK => ?_) AllL.nil
      have HO2 := Lib.hid ((HQ.out.fr HF2.out id id id).row)
      rw [HZL.out] at HO2
      refine step_app15 rfl (.tmp 30) (.tmp 38) rfl (.slice (some ⟨ra, 0, none⟩) zl c) zl P rfl HO2.out ⟨P2, 0, none⟩ _ rfl rfl hc2 (by omega) ?_
      intro A9 c9 w9 ho9 hg9 hb9
      rw [← HZL.out] at ho9 hg9 hb9
      have hf9 : Fr11 (fun j => j = ra) w1 w9 := (HF2.out.mono fun _ => False.elim).trans (Fr11.of_grown (X := fun j => j = ra) hg9 fun j hj => by simpa [Value.ownBlock] using hj) fun _ _ => id
      obtain ⟨hB9, hend⟩ := hp15_make HQ.out h1 h2 h3 HX4.out (n := n) (by have := HMM.out; have := HRO.out; omega) hf9 ho9 (hb9.imp id fun h => ⟨_, HS2.out, h⟩)
      have HEND := Lib.hid hend
      rw [HZL.out, HMM.out, HLB.out] at HEND
      rw [HZL.out, HMM.out] at hB9
      have c1c : w9.cell? ⟨B, 1, none⟩ = some (.slice (some ⟨ra, 0, none⟩) zl c) := by simp [World.cell?, hB9]
      have c2c : w9.cell? ⟨B, 2, none⟩ = some (.slice (some la) m m) := by simp [World.cell?, hB9]
      have hz9 : w9.frozen? ⟨B, 1, none⟩ = false := frozen_of_row w9 B 1 _ _ hB9
      have hz8 : w9.frozen? ⟨B, 2, none⟩ = false := frozen_of_row w9 B 2 _ _ hB9
      clear HF2 c1b c2b hc2 HS2 HO2 ho9 hg9 hb9 hf9 hB9 hend
      refine hK.out _ _ (⟨c1c, c2c⟩) (fun hHeld => ?_)
      clear hK K
      try simp only [Act.put, List.getElem_toArray, List.getElem_cons_zero, List.getElem_cons_succ, List.setIfInBounds_toArray, List.set_cons_zero, List.set_cons_succ]
      refine wpL_reckon (i := 21) (v := ?_) rfl (by kernel_rfl) (fun _ _ _ h => h) (Or.inl ⟨by rfl, ?_⟩) (Or.inr (by assumption)) ?_
      rotate_left 1
      · intro w _; go_simp; try with_reducible rfl
      try simp only [Act.put, List.getElem_toArray, List.getElem_cons_zero, List.getElem_cons_succ, List.setIfInBounds_toArray, List.set_cons_zero, List.set_cons_succ]
      refine wpL_reckon (i := 22) (v := ?_) rfl (by kernel_rfl) (fun _ _ _ h => h) (Or.inl ⟨by rfl, ?_⟩) (Or.inr (by assumption)) ?_
      rotate_left 1
      · intro w _; go_simp; try with_reducible rfl
      try simp only [Act.put, List.getElem_toArray, List.getElem_cons_zero, List.getElem_cons_succ, List.setIfInBounds_toArray, List.set_cons_zero, List.set_cons_succ]
      refine wpL_ready (rs := [23]) (by kernel_rfl) (by simp) ?_
      refine AllL.late rfl (by kernel_rfl) (fun K hK => ?_) AllL.nil
      go_simp
      refine hK.out _ _ ?_
      clear hK K
      try simp only [Act.put, List.getElem_toArray, List.getElem_cons_zero, List.getElem_cons_succ, List.setIfInBounds_toArray, List.set_cons_zero, List.set_cons_succ]
      refine wpL_reckon (i := 24) (v := ?_) rfl (by kernel_rfl) (fun _ _ _ h => h) (Or.inl ⟨by rfl, ?_⟩) (Or.inl (by kernel_rfl)) ?_
      rotate_left 1
      · intro w _; go_simp; try with_reducible rfl
      try simp only [Act.put, List.getElem_toArray, List.getElem_cons_zero, List.getElem_cons_succ, List.setIfInBounds_toArray, List.set_cons_zero, List.set_cons_succ]
      refine wpL_reckon (i := 25) (v := ?_) rfl (by kernel_rfl) (fun _ _ _ h => h) (Or.inl ⟨by rfl, ?_⟩) (Or.inl (by kernel_rfl)) ?_
      rotate_left 1
      · intro w _; go_simp; try with_reducible rfl
      try simp only [Act.put, List.getElem_toArray, List.getElem_cons_zero, List.getElem_cons_succ, List.setIfInBounds_toArray, List.set_cons_zero, List.set_cons_succ]
      refine wpL_ready (rs := [26]) (by kernel_rfl) (by simp) ?_
      refine AllL.late rfl (by kernel_rfl) (fun K hK => ?_) AllL.nil
      go_simp
      refine hK.out _ _ ?_
      clear hK K
      try simp only [Act.put, List.getElem_toArray, List.getElem_cons_zero, List.getElem_cons_succ, List.setIfInBounds_toArray, List.set_cons_zero, List.set_cons_succ]
      refine wpL_done (by kernel_rfl) ?_ _
      go_wp2_with fail
      go_ret2
      rw [HE.out, HN.out, HG.out]
      exact ⟨rfl, HEND.out⟩
end Go.Proofs.Ytibiocjdkndnhaa
