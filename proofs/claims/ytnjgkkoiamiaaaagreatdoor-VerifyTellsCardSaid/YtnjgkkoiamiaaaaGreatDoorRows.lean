/-
  NARROWER THAN 'FOR EVERY INPUT', by the rows' own cells (each row's printed sentence says how): VerifyTells: laid · VerifyLoads: laid · VerifyAll: laid · VerifyBack: laid · VerifyMore: laid · VerifyDeclares: laid.
  DERIVED. THE GIVEN ROWS OF THIS SEAT. 6 by the template 'for every input the law returns true; each argument reads behind the call as it read before'; 0 by the template 'total and deterministic' (their statements: YtnjgkkoiamiaaaaGreatDoorTotals.lean).
  GIVEN WITH THE SEED: the statements are not yours to turn. If you find one false, say at which input.
  Laid BY PROGRAM, IN A SANDBOX (cutbox-rows.mjs): the forced cells as the released guide's own fill.sh prints them over the translation 4383d2b7adfbf058… (all of the seat's roots in one cut). By AI agents, Wed Nov 11 2026. No macro, syntax, notation, axiom, sorry.
-/
import Derived.Test.YtnjgkkoiamiaaaaGreatDoorChecked
import GoSem.Claim
import GoSem.ClaimJoined
import GoSem.ClaimMapViews
import Derived.JoinedTies
import Derived.KernelRfl
namespace Go.Proofs.YtnjgkkoiamiaaaaGreatDoor
/- THE CELL 'sum', in the pinned program and in every row, IS THE sha256 OF THE DUMP (.gsa) THAT YtnjgkkoiamiaaaaGreatDoorProg.lean LOADS. Nothing in Lean hashes anything: it is a label: what it is worth is what the hold of that sum in a sandbox is worth. -/
noncomputable def Tryz.pinned : Pinned := { name := "ytnjgkkoiamiaaaagreatdoor", sum := "4383d2b7adfbf058bb3aba0e2d7a1dd64edbec776bafbf4cdb2907b6eae619b5", checked := Tryz.checked }
namespace Rows
def none {H : Type} : Left H := { results := [], args := [] }

/- WHAT THE LISTED PACKAGE-LEVEL VARIABLES READ AS WHEN THE CALL BEGINS. Each datum BY PROGRAM (the guide's laid-datum.mjs) off the statement by which the dump's own 'gosem.cut.vars' lays the variable. In a bare row this is a premise. The card (YtnjgkkoiamiaaaaGreatDoorCards.lean) ties it to the program's text. -/
def laid_capstan_value_widths {H : Type} : DataW H := .agg [.agg [.lit (.int .i64 0), .lit (.int .i64 0)], .agg [.lit (.int .i64 8), .lit (.int .i64 0)], .agg [.lit (.int .i64 3), .lit (.int .i64 3)]]
def laid_capstan_method_kind {H : Type} : DataW H := .agg [.lit (.int .i64 1), .lit (.int .i64 1), .lit (.int .i64 3)]
def laid_capstan_method_result {H : Type} : DataW H := .agg [.lit (.int .i64 1), .lit (.int .i64 1), .lit (.int .i64 2)]
def laid_capstan_method_reads {H : Type} : DataW H := .agg [.lit (.int .i64 1), .lit (.int .i64 0), .lit (.int .i64 1)]
def laid_capstan_method_fuel {H : Type} : DataW H := .agg [.lit (.int .i64 3), .lit (.int .i64 0), .lit (.int .i64 1048576)]
def laid_capstan_method_stack {H : Type} : DataW H := .agg [.lit (.int .i64 2), .lit (.int .i64 0), .lit (.int .i64 256)]
def laid_capstan_method_heap {H : Type} : DataW H := .agg [.lit (.int .i64 2), .lit (.int .i64 0), .lit (.int .i64 1024)]

/-- 'capstanlaw14.VerifyTells': WHATEVER THE INPUT: true; the input reads as it did. -/
def verifyTellsSpec : ChangeSpec := { name := "verifyTells", fn := fun _ => fun
  | [d] => { results := [.lit (.bool true)], args := [d] }
  | _ => none }
def verifyTellsRow : OpenClaim := { program := "ytnjgkkoiamiaaaagreatdoor", sum := "4383d2b7adfbf058bb3aba0e2d7a1dd64edbec776bafbf4cdb2907b6eae619b5", func := "capstan/capstanlaw14.VerifyTells", spec := "verifyTells", unfollowed := true, recurses := true, named := ["capstan/value.widths", "capstan/method.kind", "capstan/method.result", "capstan/method.reads", "capstan/method.fuel", "capstan/method.stack", "capstan/method.heap"], apart := false, laid := [("capstan/value.widths", laid_capstan_value_widths), ("capstan/method.kind", laid_capstan_method_kind), ("capstan/method.result", laid_capstan_method_result), ("capstan/method.reads", laid_capstan_method_reads), ("capstan/method.fuel", laid_capstan_method_fuel), ("capstan/method.stack", laid_capstan_method_stack), ("capstan/method.heap", laid_capstan_method_heap)] }
def VerifyTellsSaid : Prop := verifyTellsRow.holds Tryz.pinned (OpenSpec.ofChange verifyTellsSpec)

/-- ITS FALSE NEIGHBOUR: 'it returns false'. Refute it at one input. -/
def verifyTellsWrong : ChangeSpec := { name := "verifyTells", fn := fun _ => fun
  | [d] => { results := [.lit (.bool false)], args := [d] }
  | _ => none }
def VerifyTellsWrongFalsely : Prop := verifyTellsRow.holds Tryz.pinned (OpenSpec.ofChange verifyTellsWrong)

/-- 'capstanlaw14.VerifyLoads': WHATEVER THE INPUT: true; the input reads as it did. -/
def verifyLoadsSpec : ChangeSpec := { name := "verifyLoads", fn := fun _ => fun
  | [d] => { results := [.lit (.bool true)], args := [d] }
  | _ => none }
def verifyLoadsRow : OpenClaim := { program := "ytnjgkkoiamiaaaagreatdoor", sum := "4383d2b7adfbf058bb3aba0e2d7a1dd64edbec776bafbf4cdb2907b6eae619b5", func := "capstan/capstanlaw14.VerifyLoads", spec := "verifyLoads", unfollowed := true, recurses := true, named := ["capstan/value.widths", "capstan/method.result", "capstan/method.reads", "capstan/method.fuel", "capstan/method.stack", "capstan/method.heap", "capstan/method.kind"], apart := false, laid := [("capstan/value.widths", laid_capstan_value_widths), ("capstan/method.kind", laid_capstan_method_kind), ("capstan/method.result", laid_capstan_method_result), ("capstan/method.reads", laid_capstan_method_reads), ("capstan/method.fuel", laid_capstan_method_fuel), ("capstan/method.stack", laid_capstan_method_stack), ("capstan/method.heap", laid_capstan_method_heap)] }
def VerifyLoadsSaid : Prop := verifyLoadsRow.holds Tryz.pinned (OpenSpec.ofChange verifyLoadsSpec)

/-- ITS FALSE NEIGHBOUR: 'it returns false'. Refute it at one input. -/
def verifyLoadsWrong : ChangeSpec := { name := "verifyLoads", fn := fun _ => fun
  | [d] => { results := [.lit (.bool false)], args := [d] }
  | _ => none }
def VerifyLoadsWrongFalsely : Prop := verifyLoadsRow.holds Tryz.pinned (OpenSpec.ofChange verifyLoadsWrong)

/-- 'capstanlaw14.VerifyAll': WHATEVER THE INPUT: true; the input reads as it did. -/
def verifyAllSpec : ChangeSpec := { name := "verifyAll", fn := fun _ => fun
  | [d] => { results := [.lit (.bool true)], args := [d] }
  | _ => none }
def verifyAllRow : OpenClaim := { program := "ytnjgkkoiamiaaaagreatdoor", sum := "4383d2b7adfbf058bb3aba0e2d7a1dd64edbec776bafbf4cdb2907b6eae619b5", func := "capstan/capstanlaw14.VerifyAll", spec := "verifyAll", unfollowed := true, recurses := true, named := ["capstan/value.widths", "capstan/method.kind", "capstan/method.result", "capstan/method.reads", "capstan/method.fuel", "capstan/method.stack", "capstan/method.heap"], apart := false, laid := [("capstan/value.widths", laid_capstan_value_widths), ("capstan/method.kind", laid_capstan_method_kind), ("capstan/method.result", laid_capstan_method_result), ("capstan/method.reads", laid_capstan_method_reads), ("capstan/method.fuel", laid_capstan_method_fuel), ("capstan/method.stack", laid_capstan_method_stack), ("capstan/method.heap", laid_capstan_method_heap)] }
def VerifyAllSaid : Prop := verifyAllRow.holds Tryz.pinned (OpenSpec.ofChange verifyAllSpec)

/-- ITS FALSE NEIGHBOUR: 'it returns false'. Refute it at one input. -/
def verifyAllWrong : ChangeSpec := { name := "verifyAll", fn := fun _ => fun
  | [d] => { results := [.lit (.bool false)], args := [d] }
  | _ => none }
def VerifyAllWrongFalsely : Prop := verifyAllRow.holds Tryz.pinned (OpenSpec.ofChange verifyAllWrong)

/-- 'capstanlaw14.VerifyBack': WHATEVER THE INPUT: true; the input reads as it did. -/
def verifyBackSpec : ChangeSpec := { name := "verifyBack", fn := fun _ => fun
  | [d1, d2] => { results := [.lit (.bool true)], args := [d1, d2] }
  | _ => none }
def verifyBackRow : OpenClaim := { program := "ytnjgkkoiamiaaaagreatdoor", sum := "4383d2b7adfbf058bb3aba0e2d7a1dd64edbec776bafbf4cdb2907b6eae619b5", func := "capstan/capstanlaw14.VerifyBack", spec := "verifyBack", unfollowed := true, recurses := true, named := ["capstan/value.widths", "capstan/method.kind", "capstan/method.result", "capstan/method.reads", "capstan/method.fuel", "capstan/method.stack", "capstan/method.heap"], apart := false, laid := [("capstan/value.widths", laid_capstan_value_widths), ("capstan/method.kind", laid_capstan_method_kind), ("capstan/method.result", laid_capstan_method_result), ("capstan/method.reads", laid_capstan_method_reads), ("capstan/method.fuel", laid_capstan_method_fuel), ("capstan/method.stack", laid_capstan_method_stack), ("capstan/method.heap", laid_capstan_method_heap)] }
def VerifyBackSaid : Prop := verifyBackRow.holds Tryz.pinned (OpenSpec.ofChange verifyBackSpec)

/-- ITS FALSE NEIGHBOUR: 'it returns false'. Refute it at one input. -/
def verifyBackWrong : ChangeSpec := { name := "verifyBack", fn := fun _ => fun
  | [d1, d2] => { results := [.lit (.bool false)], args := [d1, d2] }
  | _ => none }
def VerifyBackWrongFalsely : Prop := verifyBackRow.holds Tryz.pinned (OpenSpec.ofChange verifyBackWrong)

/-- 'capstanlaw14.VerifyMore': WHATEVER THE INPUT: true; the input reads as it did. -/
def verifyMoreSpec : ChangeSpec := { name := "verifyMore", fn := fun _ => fun
  | [d1, d2, d3] => { results := [.lit (.bool true)], args := [d1, d2, d3] }
  | _ => none }
def verifyMoreRow : OpenClaim := { program := "ytnjgkkoiamiaaaagreatdoor", sum := "4383d2b7adfbf058bb3aba0e2d7a1dd64edbec776bafbf4cdb2907b6eae619b5", func := "capstan/capstanlaw14.VerifyMore", spec := "verifyMore", unfollowed := true, recurses := true, named := ["capstan/value.widths", "capstan/method.kind", "capstan/method.result", "capstan/method.reads", "capstan/method.fuel", "capstan/method.stack", "capstan/method.heap"], apart := false, laid := [("capstan/value.widths", laid_capstan_value_widths), ("capstan/method.kind", laid_capstan_method_kind), ("capstan/method.result", laid_capstan_method_result), ("capstan/method.reads", laid_capstan_method_reads), ("capstan/method.fuel", laid_capstan_method_fuel), ("capstan/method.stack", laid_capstan_method_stack), ("capstan/method.heap", laid_capstan_method_heap)] }
def VerifyMoreSaid : Prop := verifyMoreRow.holds Tryz.pinned (OpenSpec.ofChange verifyMoreSpec)

/-- ITS FALSE NEIGHBOUR: 'it returns false'. Refute it at one input. -/
def verifyMoreWrong : ChangeSpec := { name := "verifyMore", fn := fun _ => fun
  | [d1, d2, d3] => { results := [.lit (.bool false)], args := [d1, d2, d3] }
  | _ => none }
def VerifyMoreWrongFalsely : Prop := verifyMoreRow.holds Tryz.pinned (OpenSpec.ofChange verifyMoreWrong)

/-- 'capstanlaw14.VerifyDeclares': WHATEVER THE INPUT: true; the input reads as it did. -/
def verifyDeclaresSpec : ChangeSpec := { name := "verifyDeclares", fn := fun _ => fun
  | [d1, d2] => { results := [.lit (.bool true)], args := [d1, d2] }
  | _ => none }
def verifyDeclaresRow : OpenClaim := { program := "ytnjgkkoiamiaaaagreatdoor", sum := "4383d2b7adfbf058bb3aba0e2d7a1dd64edbec776bafbf4cdb2907b6eae619b5", func := "capstan/capstanlaw14.VerifyDeclares", spec := "verifyDeclares", unfollowed := true, recurses := true, named := ["capstan/value.widths", "capstan/method.kind", "capstan/method.result", "capstan/method.reads", "capstan/method.fuel", "capstan/method.stack", "capstan/method.heap"], apart := false, laid := [("capstan/value.widths", laid_capstan_value_widths), ("capstan/method.kind", laid_capstan_method_kind), ("capstan/method.result", laid_capstan_method_result), ("capstan/method.reads", laid_capstan_method_reads), ("capstan/method.fuel", laid_capstan_method_fuel), ("capstan/method.stack", laid_capstan_method_stack), ("capstan/method.heap", laid_capstan_method_heap)] }
def VerifyDeclaresSaid : Prop := verifyDeclaresRow.holds Tryz.pinned (OpenSpec.ofChange verifyDeclaresSpec)

/-- ITS FALSE NEIGHBOUR: 'it returns false'. Refute it at one input. -/
def verifyDeclaresWrong : ChangeSpec := { name := "verifyDeclares", fn := fun _ => fun
  | [d1, d2] => { results := [.lit (.bool false)], args := [d1, d2] }
  | _ => none }
def VerifyDeclaresWrongFalsely : Prop := verifyDeclaresRow.holds Tryz.pinned (OpenSpec.ofChange verifyDeclaresWrong)

/- THE SECOND FORM. 'bulk': how many values and letters a reading holds, each counted each time it is reached (what is shared counts as often as it is met; a slice's spare places count too). A statement '..UptoSaid' is the law's where the arguments, and the package variables that the reading takes, are together of bulk at most 1048576: NARROWER than '..Said'. Prove '..Said' where nothing that the law and all that it calls make is longer than what came in: it says more and counts as full. Else prove '..UptoSaid'. A law counts once. -/
mutual
def uptoBulk {H : Type} : DataW H → Nat
  | .lit (.string bytes) => bytes.length + 1
  | .lit _ => 1
  | .nil => 1
  | .ptr d => uptoBulk d + 1
  | .slice elems spare => uptoBulkAll elems + uptoBulkAll spare + 1
  | .agg parts => uptoBulkAll parts + 1
  | .iface _ d => uptoBulk d + 1
  | .map entries => uptoBulkEntries entries + 1
  | .held _ => 1
def uptoBulkAll {H : Type} : List (DataW H) → Nat
  | [] => 0
  | d :: r => uptoBulk d + uptoBulkAll r
def uptoBulkEntries {H : Type} : List (Lit × DataW H) → Nat
  | [] => 0
  | x :: r => uptoBulkEntry x + uptoBulkEntries r
def uptoBulkEntry {H : Type} : Lit × DataW H → Nat
  | (.string bytes, d) => bytes.length + uptoBulk d + 1
  | (_, d) => uptoBulk d + 1
 end
def uptoSmall : (H : Type) → List (DataW H) → Bool := fun _ ds => decide (uptoBulkAll ds ≤ 1048576)
def OpenSpec.upto (s : _root_.Go.ChangeSpec) : _root_.Go.OpenSpec := { _root_.Go.OpenSpec.ofChange s with cond := some uptoSmall }

/-- 'capstanlaw14.VerifyTells', WHERE WHAT IT READS IS OF BULK AT MOST 1048576: true; the input reads as it did. -/
def verifyTellsUptoRow : OpenClaim := { program := "ytnjgkkoiamiaaaagreatdoor", sum := "4383d2b7adfbf058bb3aba0e2d7a1dd64edbec776bafbf4cdb2907b6eae619b5", func := "capstan/capstanlaw14.VerifyTells", spec := "verifyTells", unfollowed := true, recurses := true, named := ["capstan/value.widths", "capstan/method.kind", "capstan/method.result", "capstan/method.reads", "capstan/method.fuel", "capstan/method.stack", "capstan/method.heap"], apart := false, laid := [("capstan/value.widths", laid_capstan_value_widths), ("capstan/method.kind", laid_capstan_method_kind), ("capstan/method.result", laid_capstan_method_result), ("capstan/method.reads", laid_capstan_method_reads), ("capstan/method.fuel", laid_capstan_method_fuel), ("capstan/method.stack", laid_capstan_method_stack), ("capstan/method.heap", laid_capstan_method_heap)], narrowed := true }
def VerifyTellsUptoSaid : Prop := verifyTellsUptoRow.holds Tryz.pinned (OpenSpec.upto verifyTellsSpec)

/-- 'capstanlaw14.VerifyLoads', WHERE WHAT IT READS IS OF BULK AT MOST 1048576: true; the input reads as it did. -/
def verifyLoadsUptoRow : OpenClaim := { program := "ytnjgkkoiamiaaaagreatdoor", sum := "4383d2b7adfbf058bb3aba0e2d7a1dd64edbec776bafbf4cdb2907b6eae619b5", func := "capstan/capstanlaw14.VerifyLoads", spec := "verifyLoads", unfollowed := true, recurses := true, named := ["capstan/value.widths", "capstan/method.result", "capstan/method.reads", "capstan/method.fuel", "capstan/method.stack", "capstan/method.heap", "capstan/method.kind"], apart := false, laid := [("capstan/value.widths", laid_capstan_value_widths), ("capstan/method.kind", laid_capstan_method_kind), ("capstan/method.result", laid_capstan_method_result), ("capstan/method.reads", laid_capstan_method_reads), ("capstan/method.fuel", laid_capstan_method_fuel), ("capstan/method.stack", laid_capstan_method_stack), ("capstan/method.heap", laid_capstan_method_heap)], narrowed := true }
def VerifyLoadsUptoSaid : Prop := verifyLoadsUptoRow.holds Tryz.pinned (OpenSpec.upto verifyLoadsSpec)

/-- 'capstanlaw14.VerifyAll', WHERE WHAT IT READS IS OF BULK AT MOST 1048576: true; the input reads as it did. -/
def verifyAllUptoRow : OpenClaim := { program := "ytnjgkkoiamiaaaagreatdoor", sum := "4383d2b7adfbf058bb3aba0e2d7a1dd64edbec776bafbf4cdb2907b6eae619b5", func := "capstan/capstanlaw14.VerifyAll", spec := "verifyAll", unfollowed := true, recurses := true, named := ["capstan/value.widths", "capstan/method.kind", "capstan/method.result", "capstan/method.reads", "capstan/method.fuel", "capstan/method.stack", "capstan/method.heap"], apart := false, laid := [("capstan/value.widths", laid_capstan_value_widths), ("capstan/method.kind", laid_capstan_method_kind), ("capstan/method.result", laid_capstan_method_result), ("capstan/method.reads", laid_capstan_method_reads), ("capstan/method.fuel", laid_capstan_method_fuel), ("capstan/method.stack", laid_capstan_method_stack), ("capstan/method.heap", laid_capstan_method_heap)], narrowed := true }
def VerifyAllUptoSaid : Prop := verifyAllUptoRow.holds Tryz.pinned (OpenSpec.upto verifyAllSpec)

/-- 'capstanlaw14.VerifyBack', WHERE WHAT IT READS IS OF BULK AT MOST 1048576: true; the input reads as it did. -/
def verifyBackUptoRow : OpenClaim := { program := "ytnjgkkoiamiaaaagreatdoor", sum := "4383d2b7adfbf058bb3aba0e2d7a1dd64edbec776bafbf4cdb2907b6eae619b5", func := "capstan/capstanlaw14.VerifyBack", spec := "verifyBack", unfollowed := true, recurses := true, named := ["capstan/value.widths", "capstan/method.kind", "capstan/method.result", "capstan/method.reads", "capstan/method.fuel", "capstan/method.stack", "capstan/method.heap"], apart := false, laid := [("capstan/value.widths", laid_capstan_value_widths), ("capstan/method.kind", laid_capstan_method_kind), ("capstan/method.result", laid_capstan_method_result), ("capstan/method.reads", laid_capstan_method_reads), ("capstan/method.fuel", laid_capstan_method_fuel), ("capstan/method.stack", laid_capstan_method_stack), ("capstan/method.heap", laid_capstan_method_heap)], narrowed := true }
def VerifyBackUptoSaid : Prop := verifyBackUptoRow.holds Tryz.pinned (OpenSpec.upto verifyBackSpec)

/-- 'capstanlaw14.VerifyMore', WHERE WHAT IT READS IS OF BULK AT MOST 1048576: true; the input reads as it did. -/
def verifyMoreUptoRow : OpenClaim := { program := "ytnjgkkoiamiaaaagreatdoor", sum := "4383d2b7adfbf058bb3aba0e2d7a1dd64edbec776bafbf4cdb2907b6eae619b5", func := "capstan/capstanlaw14.VerifyMore", spec := "verifyMore", unfollowed := true, recurses := true, named := ["capstan/value.widths", "capstan/method.kind", "capstan/method.result", "capstan/method.reads", "capstan/method.fuel", "capstan/method.stack", "capstan/method.heap"], apart := false, laid := [("capstan/value.widths", laid_capstan_value_widths), ("capstan/method.kind", laid_capstan_method_kind), ("capstan/method.result", laid_capstan_method_result), ("capstan/method.reads", laid_capstan_method_reads), ("capstan/method.fuel", laid_capstan_method_fuel), ("capstan/method.stack", laid_capstan_method_stack), ("capstan/method.heap", laid_capstan_method_heap)], narrowed := true }
def VerifyMoreUptoSaid : Prop := verifyMoreUptoRow.holds Tryz.pinned (OpenSpec.upto verifyMoreSpec)

/-- 'capstanlaw14.VerifyDeclares', WHERE WHAT IT READS IS OF BULK AT MOST 1048576: true; the input reads as it did. -/
def verifyDeclaresUptoRow : OpenClaim := { program := "ytnjgkkoiamiaaaagreatdoor", sum := "4383d2b7adfbf058bb3aba0e2d7a1dd64edbec776bafbf4cdb2907b6eae619b5", func := "capstan/capstanlaw14.VerifyDeclares", spec := "verifyDeclares", unfollowed := true, recurses := true, named := ["capstan/value.widths", "capstan/method.kind", "capstan/method.result", "capstan/method.reads", "capstan/method.fuel", "capstan/method.stack", "capstan/method.heap"], apart := false, laid := [("capstan/value.widths", laid_capstan_value_widths), ("capstan/method.kind", laid_capstan_method_kind), ("capstan/method.result", laid_capstan_method_result), ("capstan/method.reads", laid_capstan_method_reads), ("capstan/method.fuel", laid_capstan_method_fuel), ("capstan/method.stack", laid_capstan_method_stack), ("capstan/method.heap", laid_capstan_method_heap)], narrowed := true }
def VerifyDeclaresUptoSaid : Prop := verifyDeclaresUptoRow.holds Tryz.pinned (OpenSpec.upto verifyDeclaresSpec)

end Rows
end Go.Proofs.YtnjgkkoiamiaaaaGreatDoor
