/-
  Layer 8, package module: its contracts in the form that the laws ask.
-/
import Derived.Test.YteimpkjpoijhmaaDoorNq
import Derived.Test.YteimpkjpoijhmaaDoorNs
namespace Go.Proofs.YteimpkjpoijhmaaDoor
open Go.RowKit
set_option maxRecDepth 100000
set_option linter.unusedVariables false

theorem kmparse : KMParse fWM := fun A c n l w hw hr hn hl => (mparse_v A c n l w hw hr hn hl).mono fun _ _ ⟨y, h1, h2, _, h3⟩ => ⟨y, h1, h2, h3⟩
theorem hq_small {w : World} {y : Ma} {d : Md} (hq : Hq w y d) (hg : qG d = false) : ∀ z ∈ y.Z, z.m.a.length ≤ 1000000 ∧ z.m.l.length ≤ 1000000 ∧ z.x.k ≤ 1000000 := by
  intro z hz
  obtain ⟨-, -, -, h4⟩ := qG_parts hg
  have h5 := h4 (z.m, z.k) (by rw [← hq.2.2.2.1]; exact List.mem_map.2 ⟨z, hz, rfl⟩)
  have h6 := (hq.2.2.1.1 z hz).2.2
  obtain ⟨h7, h8⟩ := h5
  unfold gB at h7
  simp at h7
  dsimp only at h8
  omega
theorem kmcopyw (y : Ma) (d : Md) (w : World) (hq : Hq w y d) (hg : qG d = false) : Calls Tryd.prog 24 #[dv y d] w fun r w' => ∃ t, r = .returned (dv t d) ∧ Hq w' t d ∧ Ow w' w.heap.size w'.heap.size t d ∧ Below w.heap.size w w' := by
  obtain ⟨h1, h2, h3, h4⟩ := qG_parts hg
  exact mcopy_v y d w hq (by omega) (by omega) (by omega) (hq_small hq hg)
theorem kmcopy : KMCopy fWM := fun y d w _ hq hg => (kmcopyw y d w hq hg).mono fun _ _ ⟨t, h1, h2, _, h3⟩ => ⟨t, h1, h2, h3⟩
end Go.Proofs.YteimpkjpoijhmaaDoor
