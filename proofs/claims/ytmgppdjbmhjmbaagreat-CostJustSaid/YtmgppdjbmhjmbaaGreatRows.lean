/-
  No cell of these rows narrows 'for every input' (looked for: loops, veiled, ifaces, maps, wideKeys, modest, calm, conditions, laid).
  DERIVED. THE GIVEN ROWS OF THIS SEAT. 3 by the template 'for every input the law returns true; each argument reads behind the call as it read before'; 0 by the template 'total and deterministic' (their statements: YtmgppdjbmhjmbaaGreatTotals.lean).
  GIVEN WITH THE SEED: the statements are not yours to turn. If you find one false, say at which input.
  Laid BY PROGRAM, IN A SANDBOX (cutbox-rows.mjs): the forced cells as the released guide's own fill.sh prints them over the translation a9b95ccdfd3e4801… (all of the seat's roots in one cut). By AI agents, Wed Nov 11 2026. No macro, syntax, notation, axiom, sorry.
-/
import Derived.Test.YtmgppdjbmhjmbaaGreatChecked
import GoSem.Claim
import GoSem.ClaimJoined
import GoSem.ClaimMapViews
import Derived.JoinedTies
import Derived.KernelRfl
namespace Go.Proofs.YtmgppdjbmhjmbaaGreat
/- THE CELL 'sum', in the pinned program and in every row, IS THE sha256 OF THE DUMP (.gsa) THAT YtmgppdjbmhjmbaaGreatProg.lean LOADS. Nothing in Lean hashes anything: it is a label: what it is worth is what the hold of that sum in a sandbox is worth. -/
noncomputable def Tryz.pinned : Pinned := { name := "ytmgppdjbmhjmbaagreat", sum := "a9b95ccdfd3e48011b41980408ceeb65f66f540e9af0f3fbbe51c88391356e25", checked := Tryz.checked }
namespace Rows
def none {H : Type} : Left H := { results := [], args := [] }

/-- 'capstanlaw12.CostJust': WHATEVER THE INPUT: true; the input reads as it did. -/
def costJustSpec : ChangeSpec := { name := "costJust", fn := fun _ => fun
  | [d1, d2] => { results := [.lit (.bool true)], args := [d1, d2] }
  | _ => none }
def costJustRow : OpenClaim := { program := "ytmgppdjbmhjmbaagreat", sum := "a9b95ccdfd3e48011b41980408ceeb65f66f540e9af0f3fbbe51c88391356e25", func := "capstan/capstanlaw12.CostJust", spec := "costJust", unfollowed := true, recurses := true, apart := false }
def CostJustSaid : Prop := costJustRow.holds Tryz.pinned (OpenSpec.ofChange costJustSpec)

/-- ITS FALSE NEIGHBOUR: 'it returns false'. Refute it at one input. -/
def costJustWrong : ChangeSpec := { name := "costJust", fn := fun _ => fun
  | [d1, d2] => { results := [.lit (.bool false)], args := [d1, d2] }
  | _ => none }
def CostJustWrongFalsely : Prop := costJustRow.holds Tryz.pinned (OpenSpec.ofChange costJustWrong)

/-- 'capstanlaw12.CostDeclares': WHATEVER THE INPUT: true; the input reads as it did. -/
def costDeclaresSpec : ChangeSpec := { name := "costDeclares", fn := fun _ => fun
  | [d1, d2, d3, d4] => { results := [.lit (.bool true)], args := [d1, d2, d3, d4] }
  | _ => none }
def costDeclaresRow : OpenClaim := { program := "ytmgppdjbmhjmbaagreat", sum := "a9b95ccdfd3e48011b41980408ceeb65f66f540e9af0f3fbbe51c88391356e25", func := "capstan/capstanlaw12.CostDeclares", spec := "costDeclares", unfollowed := true, recurses := true, apart := false }
def CostDeclaresSaid : Prop := costDeclaresRow.holds Tryz.pinned (OpenSpec.ofChange costDeclaresSpec)

/-- ITS FALSE NEIGHBOUR: 'it returns false'. Refute it at one input. -/
def costDeclaresWrong : ChangeSpec := { name := "costDeclares", fn := fun _ => fun
  | [d1, d2, d3, d4] => { results := [.lit (.bool false)], args := [d1, d2, d3, d4] }
  | _ => none }
def CostDeclaresWrongFalsely : Prop := costDeclaresRow.holds Tryz.pinned (OpenSpec.ofChange costDeclaresWrong)

/-- 'capstanlaw12.CostOthers': WHATEVER THE INPUT: true; the input reads as it did. -/
def costOthersSpec : ChangeSpec := { name := "costOthers", fn := fun _ => fun
  | [d] => { results := [.lit (.bool true)], args := [d] }
  | _ => none }
def costOthersRow : OpenClaim := { program := "ytmgppdjbmhjmbaagreat", sum := "a9b95ccdfd3e48011b41980408ceeb65f66f540e9af0f3fbbe51c88391356e25", func := "capstan/capstanlaw12.CostOthers", spec := "costOthers", unfollowed := true, recurses := true, apart := false }
def CostOthersSaid : Prop := costOthersRow.holds Tryz.pinned (OpenSpec.ofChange costOthersSpec)

/-- ITS FALSE NEIGHBOUR: 'it returns false'. Refute it at one input. -/
def costOthersWrong : ChangeSpec := { name := "costOthers", fn := fun _ => fun
  | [d] => { results := [.lit (.bool false)], args := [d] }
  | _ => none }
def CostOthersWrongFalsely : Prop := costOthersRow.holds Tryz.pinned (OpenSpec.ofChange costOthersWrong)

/- THE SECOND FORM. 'bulk': how many values and letters a reading holds, each counted each time it is reached (what is shared counts as often as it is met; a slice's spare places count too). A statement '..UptoSaid' is the law's where the arguments, and the package variables that the reading takes, are together of bulk at most 1048576: NARROWER than '..Said'. Prove '..Said' where nothing that the law and all that it calls make is longer than what came in: it says more and counts as full. Else prove '..UptoSaid'. A law counts once. -/
mutual
def uptoBulk {H : Type} : DataW H → Nat
  | .lit (.string bytes) => bytes.length + 1
  | .lit _ => 1
  | .nil => 1
  | .ptr d => uptoBulk d + 1
  | .slice elems spare => uptoBulkAll elems + uptoBulkAll spare + 1
  | .agg parts => uptoBulkAll parts + 1
  | .iface _ d => uptoBulk d + 1
  | .map entries => uptoBulkEntries entries + 1
  | .held _ => 1
def uptoBulkAll {H : Type} : List (DataW H) → Nat
  | [] => 0
  | d :: r => uptoBulk d + uptoBulkAll r
def uptoBulkEntries {H : Type} : List (Lit × DataW H) → Nat
  | [] => 0
  | x :: r => uptoBulkEntry x + uptoBulkEntries r
def uptoBulkEntry {H : Type} : Lit × DataW H → Nat
  | (.string bytes, d) => bytes.length + uptoBulk d + 1
  | (_, d) => uptoBulk d + 1
 end
def uptoSmall : (H : Type) → List (DataW H) → Bool := fun _ ds => decide (uptoBulkAll ds ≤ 1048576)
def OpenSpec.upto (s : _root_.Go.ChangeSpec) : _root_.Go.OpenSpec := { _root_.Go.OpenSpec.ofChange s with cond := some uptoSmall }

/-- 'capstanlaw12.CostJust', WHERE WHAT IT READS IS OF BULK AT MOST 1048576: true; the input reads as it did. -/
def costJustUptoRow : OpenClaim := { program := "ytmgppdjbmhjmbaagreat", sum := "a9b95ccdfd3e48011b41980408ceeb65f66f540e9af0f3fbbe51c88391356e25", func := "capstan/capstanlaw12.CostJust", spec := "costJust", unfollowed := true, recurses := true, apart := false, narrowed := true }
def CostJustUptoSaid : Prop := costJustUptoRow.holds Tryz.pinned (OpenSpec.upto costJustSpec)

/-- 'capstanlaw12.CostDeclares', WHERE WHAT IT READS IS OF BULK AT MOST 1048576: true; the input reads as it did. -/
def costDeclaresUptoRow : OpenClaim := { program := "ytmgppdjbmhjmbaagreat", sum := "a9b95ccdfd3e48011b41980408ceeb65f66f540e9af0f3fbbe51c88391356e25", func := "capstan/capstanlaw12.CostDeclares", spec := "costDeclares", unfollowed := true, recurses := true, apart := false, narrowed := true }
def CostDeclaresUptoSaid : Prop := costDeclaresUptoRow.holds Tryz.pinned (OpenSpec.upto costDeclaresSpec)

/-- 'capstanlaw12.CostOthers', WHERE WHAT IT READS IS OF BULK AT MOST 1048576: true; the input reads as it did. -/
def costOthersUptoRow : OpenClaim := { program := "ytmgppdjbmhjmbaagreat", sum := "a9b95ccdfd3e48011b41980408ceeb65f66f540e9af0f3fbbe51c88391356e25", func := "capstan/capstanlaw12.CostOthers", spec := "costOthers", unfollowed := true, recurses := true, apart := false, narrowed := true }
def CostOthersUptoSaid : Prop := costOthersUptoRow.holds Tryz.pinned (OpenSpec.upto costOthersSpec)

end Rows
end Go.Proofs.YtmgppdjbmhjmbaaGreat
