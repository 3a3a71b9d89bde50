/-
  Layer 4: what Of answers, for every opcode: two rows of the call's own, apart.
-/
import Derived.Test.YtmgppdjbmhjmbaaGreatOpt
namespace Go.Proofs.YtmgppdjbmhjmbaaGreat
open Go.RowKit
set_option linter.unusedSimpArgs false
set_option linter.unusedVariables false

set_option maxHeartbeats 1000000 in
theorem of_any (n : Int) (w : World) : Calls Tryz.prog 86 #[.int .u8 n] w fun e w' => ∃ A c A' c' m, e = .returned (.tuple #[.agg #[.slice A (tkL n).length c, .slice A' (gvL n).length c'], .bool (fxB n)]) ∧
    w'.ownsRow w.heap.size 5 1 (.slice A (tkL n).length c) (tkL n).length (cel (tkL n)) ∧ (∀ x : Addr, A = some x → x.block < m) ∧ w.heap.size ≤ m ∧ w'.ownsRow m 5 1 (.slice A' (gvL n).length c') (gvL n).length (cel (gvL n)) ∧ Below w.heap.size w w' := by
  have HT := fun w => Lib.hid (takes_any n w)
  have HG := fun w => Lib.hid (gives_any n w)
  obtain ⟨T, hT⟩ : ∃ T, tkL n = T := ⟨_, rfl⟩
  obtain ⟨V, hV⟩ : ∃ V, gvL n = V := ⟨_, rfl⟩
  obtain ⟨v, hv⟩ : ∃ v, fxB n = v := ⟨_, rfl⟩
  rw [hT, hV, hv]
  simp only [hT, hV, hv] at HT HG
  clear hT hV hv
  go_enter Tryz.func86, Tryz.ntmps86
  go_wp2_with fail
  refine (HT _).out.mono ?_
  rintro e w2 ⟨A, c, rfl, ho2, hb2⟩
  have O2 := Lib.hid ho2
  have B2 := Lib.hid hb2
  clear ho2 hb2
  go_wp2_with fail
  refine (HG _).out.mono ?_
  rintro e w3 ⟨A', c', rfl, ho3, hb3⟩
  have O3 := Lib.hid ho3
  have B3 := Lib.hid (B2.out.trans (hb3.mono B2.out.size))
  have hbl : ∀ x : Addr, A = some x → x.block < w2.heap.size := by
    intro x hx
    subst hx
    have := (O2.out.lt x.block rfl).2
    exact this
  have O2' := Lib.hid (own_below O2.out hb3 (Nat.le_refl _))
  have hsz := Lib.hid (Nat.le_trans (show w.heap.size ≤ w.heap.size + 1 by omega) (by simpa using B2.out.size))
  have HB := Lib.hid hbl
  clear ho3 hb3 hbl O2
  obtain ⟨hc, hf⟩ := bcell B3.out
  go_wp2_with fail
  have hlt : w.heap.size < w2.heap.size := by have := B2.out.size; simp at this; omega
  refine bodyPost_ret (v := .tuple #[.agg #[.slice A T.length c, .slice A' V.length c'], .bool v]) (by simp [results, Tryz.results86, go_sem, hc]) rfl ⟨A, c, A', c', w2.heap.size, rfl, ?_, HB.out, hsz.out, ?_, ?_⟩
  · exact own_base (ownsRow_setCell_below (ownsRow_setCell_below O2'.out (by simp) _) (by simp) _) (by simp)
  · exact ownsRow_setCell_below (ownsRow_setCell_below O3.out hlt _) hlt _
  · exact below_set2 (below1 B3.out) (Nat.le_refl _) (Nat.le_refl _) _ _
end Go.Proofs.YtmgppdjbmhjmbaaGreat
