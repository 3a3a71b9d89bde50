/-
  NARROWER THAN 'FOR EVERY INPUT', by the rows' own cells (each row's printed sentence says how): MethodTells: laid · MethodReads: laid · MethodBack: laid · MethodZeros: laid · MethodSame: laid.
  DERIVED. THE GIVEN ROWS OF THIS SEAT. 5 by the template 'for every input the law returns true; each argument reads behind the call as it read before'; 0 by the template 'total and deterministic' (their statements: YtjdalgejejllgaaDoorTotals.lean).
  GIVEN WITH THE SEED: the statements are not yours to turn. If you find one false, say at which input.
  Laid BY PROGRAM, IN A SANDBOX (cutbox-rows.mjs): the forced cells as the released guide's own fill.sh prints them over the translation 6b8045ee1173ca5d… (all of the seat's roots in one cut). By AI agents, Wed Nov 11 2026. No macro, syntax, notation, axiom, sorry.
-/
import Derived.Test.YtjdalgejejllgaaDoorChecked
import GoSem.Claim
import GoSem.ClaimJoined
import GoSem.ClaimMapViews
import Derived.JoinedTies
import Derived.KernelRfl
namespace Go.Proofs.YtjdalgejejllgaaDoor
/- THE CELL 'sum', in the pinned program and in every row, IS THE sha256 OF THE DUMP (.gsa) THAT YtjdalgejejllgaaDoorProg.lean LOADS. Nothing in Lean hashes anything: it is a label: what it is worth is what the hold of that sum in a sandbox is worth. -/
noncomputable def Tryd.pinned : Pinned := { name := "ytjdalgejejllgaadoor", sum := "6b8045ee1173ca5dc94cc2dc97139504b856ddeea95ce7199b3a4aff40e1e583", checked := Tryd.checked }
namespace Rows
def none {H : Type} : Left H := { results := [], args := [] }

/- WHAT THE LISTED PACKAGE-LEVEL VARIABLES READ AS WHEN THE CALL BEGINS. Each datum BY PROGRAM (the guide's laid-datum.mjs) off the statement by which the dump's own 'gosem.cut.vars' lays the variable. In a bare row this is a premise. The card (YtjdalgejejllgaaDoorCards.lean) ties it to the program's text. -/
def laid_capstan_method_kind {H : Type} : DataW H := .agg [.lit (.int .i64 1), .lit (.int .i64 1), .lit (.int .i64 3)]
def laid_capstan_method_result {H : Type} : DataW H := .agg [.lit (.int .i64 1), .lit (.int .i64 1), .lit (.int .i64 2)]
def laid_capstan_method_reads {H : Type} : DataW H := .agg [.lit (.int .i64 1), .lit (.int .i64 0), .lit (.int .i64 1)]
def laid_capstan_method_fuel {H : Type} : DataW H := .agg [.lit (.int .i64 3), .lit (.int .i64 0), .lit (.int .i64 1048576)]
def laid_capstan_method_stack {H : Type} : DataW H := .agg [.lit (.int .i64 2), .lit (.int .i64 0), .lit (.int .i64 256)]
def laid_capstan_method_heap {H : Type} : DataW H := .agg [.lit (.int .i64 2), .lit (.int .i64 0), .lit (.int .i64 1024)]

/-- 'capstanlaw07.MethodTells': WHATEVER THE INPUT: true; the input reads as it did. -/
def methodTellsSpec : ChangeSpec := { name := "methodTells", fn := fun _ => fun
  | [d1, d2, d3] => { results := [.lit (.bool true)], args := [d1, d2, d3] }
  | _ => none }
def methodTellsRow : OpenClaim := { program := "ytjdalgejejllgaadoor", sum := "6b8045ee1173ca5dc94cc2dc97139504b856ddeea95ce7199b3a4aff40e1e583", func := "capstan/capstanlaw07.MethodTells", spec := "methodTells", unfollowed := true, recurses := true, named := ["capstan/method.kind", "capstan/method.result", "capstan/method.reads", "capstan/method.fuel", "capstan/method.stack", "capstan/method.heap"], apart := false, laid := [("capstan/method.kind", laid_capstan_method_kind), ("capstan/method.result", laid_capstan_method_result), ("capstan/method.reads", laid_capstan_method_reads), ("capstan/method.fuel", laid_capstan_method_fuel), ("capstan/method.stack", laid_capstan_method_stack), ("capstan/method.heap", laid_capstan_method_heap)] }
def MethodTellsSaid : Prop := methodTellsRow.holds Tryd.pinned (OpenSpec.ofChange methodTellsSpec)

/-- ITS FALSE NEIGHBOUR: 'it returns false'. Refute it at one input. -/
def methodTellsWrong : ChangeSpec := { name := "methodTells", fn := fun _ => fun
  | [d1, d2, d3] => { results := [.lit (.bool false)], args := [d1, d2, d3] }
  | _ => none }
def MethodTellsWrongFalsely : Prop := methodTellsRow.holds Tryd.pinned (OpenSpec.ofChange methodTellsWrong)

/-- 'capstanlaw07.MethodReads': WHATEVER THE INPUT: true; the input reads as it did. -/
def methodReadsSpec : ChangeSpec := { name := "methodReads", fn := fun _ => fun
  | [d1, d2] => { results := [.lit (.bool true)], args := [d1, d2] }
  | _ => none }
def methodReadsRow : OpenClaim := { program := "ytjdalgejejllgaadoor", sum := "6b8045ee1173ca5dc94cc2dc97139504b856ddeea95ce7199b3a4aff40e1e583", func := "capstan/capstanlaw07.MethodReads", spec := "methodReads", named := ["capstan/method.result", "capstan/method.reads", "capstan/method.fuel", "capstan/method.stack", "capstan/method.heap", "capstan/method.kind"], apart := false, laid := [("capstan/method.kind", laid_capstan_method_kind), ("capstan/method.result", laid_capstan_method_result), ("capstan/method.reads", laid_capstan_method_reads), ("capstan/method.fuel", laid_capstan_method_fuel), ("capstan/method.stack", laid_capstan_method_stack), ("capstan/method.heap", laid_capstan_method_heap)] }
def MethodReadsSaid : Prop := methodReadsRow.holds Tryd.pinned (OpenSpec.ofChange methodReadsSpec)

/-- ITS FALSE NEIGHBOUR: 'it returns false'. Refute it at one input. -/
def methodReadsWrong : ChangeSpec := { name := "methodReads", fn := fun _ => fun
  | [d1, d2] => { results := [.lit (.bool false)], args := [d1, d2] }
  | _ => none }
def MethodReadsWrongFalsely : Prop := methodReadsRow.holds Tryd.pinned (OpenSpec.ofChange methodReadsWrong)

/-- 'capstanlaw07.MethodBack': WHATEVER THE INPUT: true; the input reads as it did. -/
def methodBackSpec : ChangeSpec := { name := "methodBack", fn := fun _ => fun
  | [d1, d2, d3, d4] => { results := [.lit (.bool true)], args := [d1, d2, d3, d4] }
  | _ => none }
def methodBackRow : OpenClaim := { program := "ytjdalgejejllgaadoor", sum := "6b8045ee1173ca5dc94cc2dc97139504b856ddeea95ce7199b3a4aff40e1e583", func := "capstan/capstanlaw07.MethodBack", spec := "methodBack", unfollowed := true, recurses := true, named := ["capstan/method.kind", "capstan/method.result", "capstan/method.reads", "capstan/method.fuel", "capstan/method.stack", "capstan/method.heap"], apart := false, laid := [("capstan/method.kind", laid_capstan_method_kind), ("capstan/method.result", laid_capstan_method_result), ("capstan/method.reads", laid_capstan_method_reads), ("capstan/method.fuel", laid_capstan_method_fuel), ("capstan/method.stack", laid_capstan_method_stack), ("capstan/method.heap", laid_capstan_method_heap)] }
def MethodBackSaid : Prop := methodBackRow.holds Tryd.pinned (OpenSpec.ofChange methodBackSpec)

/-- ITS FALSE NEIGHBOUR: 'it returns false'. Refute it at one input. -/
def methodBackWrong : ChangeSpec := { name := "methodBack", fn := fun _ => fun
  | [d1, d2, d3, d4] => { results := [.lit (.bool false)], args := [d1, d2, d3, d4] }
  | _ => none }
def MethodBackWrongFalsely : Prop := methodBackRow.holds Tryd.pinned (OpenSpec.ofChange methodBackWrong)

/-- 'capstanlaw07.MethodZeros': WHATEVER THE INPUT: true; the input reads as it did. -/
def methodZerosSpec : ChangeSpec := { name := "methodZeros", fn := fun _ => fun
  | [d1, d2] => { results := [.lit (.bool true)], args := [d1, d2] }
  | _ => none }
def methodZerosRow : OpenClaim := { program := "ytjdalgejejllgaadoor", sum := "6b8045ee1173ca5dc94cc2dc97139504b856ddeea95ce7199b3a4aff40e1e583", func := "capstan/capstanlaw07.MethodZeros", spec := "methodZeros", unfollowed := true, recurses := true, named := ["capstan/method.kind", "capstan/method.result", "capstan/method.reads", "capstan/method.fuel", "capstan/method.stack", "capstan/method.heap"], apart := false, laid := [("capstan/method.kind", laid_capstan_method_kind), ("capstan/method.result", laid_capstan_method_result), ("capstan/method.reads", laid_capstan_method_reads), ("capstan/method.fuel", laid_capstan_method_fuel), ("capstan/method.stack", laid_capstan_method_stack), ("capstan/method.heap", laid_capstan_method_heap)] }
def MethodZerosSaid : Prop := methodZerosRow.holds Tryd.pinned (OpenSpec.ofChange methodZerosSpec)

/-- ITS FALSE NEIGHBOUR: 'it returns false'. Refute it at one input. -/
def methodZerosWrong : ChangeSpec := { name := "methodZeros", fn := fun _ => fun
  | [d1, d2] => { results := [.lit (.bool false)], args := [d1, d2] }
  | _ => none }
def MethodZerosWrongFalsely : Prop := methodZerosRow.holds Tryd.pinned (OpenSpec.ofChange methodZerosWrong)

/-- 'capstanlaw07.MethodSame': WHATEVER THE INPUT: true; the input reads as it did. -/
def methodSameSpec : ChangeSpec := { name := "methodSame", fn := fun _ => fun
  | [d1, d2, d3] => { results := [.lit (.bool true)], args := [d1, d2, d3] }
  | _ => none }
def methodSameRow : OpenClaim := { program := "ytjdalgejejllgaadoor", sum := "6b8045ee1173ca5dc94cc2dc97139504b856ddeea95ce7199b3a4aff40e1e583", func := "capstan/capstanlaw07.MethodSame", spec := "methodSame", unfollowed := true, recurses := true, named := ["capstan/method.kind", "capstan/method.result", "capstan/method.reads", "capstan/method.fuel", "capstan/method.stack", "capstan/method.heap"], apart := false, laid := [("capstan/method.kind", laid_capstan_method_kind), ("capstan/method.result", laid_capstan_method_result), ("capstan/method.reads", laid_capstan_method_reads), ("capstan/method.fuel", laid_capstan_method_fuel), ("capstan/method.stack", laid_capstan_method_stack), ("capstan/method.heap", laid_capstan_method_heap)] }
def MethodSameSaid : Prop := methodSameRow.holds Tryd.pinned (OpenSpec.ofChange methodSameSpec)

/-- ITS FALSE NEIGHBOUR: 'it returns false'. Refute it at one input. -/
def methodSameWrong : ChangeSpec := { name := "methodSame", fn := fun _ => fun
  | [d1, d2, d3] => { results := [.lit (.bool false)], args := [d1, d2, d3] }
  | _ => none }
def MethodSameWrongFalsely : Prop := methodSameRow.holds Tryd.pinned (OpenSpec.ofChange methodSameWrong)

/- THE SECOND FORM. 'bulk': how many values and letters a reading holds, each counted each time it is reached (what is shared counts as often as it is met; a slice's spare places count too). A statement '..UptoSaid' is the law's where the arguments, and the package variables that the reading takes, are together of bulk at most 1048576: NARROWER than '..Said'. Prove '..Said' where nothing that the law and all that it calls make is longer than what came in: it says more and counts as full. Else prove '..UptoSaid'. A law counts once. -/
mutual
def uptoBulk {H : Type} : DataW H → Nat
  | .lit (.string bytes) => bytes.length + 1
  | .lit _ => 1
  | .nil => 1
  | .ptr d => uptoBulk d + 1
  | .slice elems spare => uptoBulkAll elems + uptoBulkAll spare + 1
  | .agg parts => uptoBulkAll parts + 1
  | .iface _ d => uptoBulk d + 1
  | .map entries => uptoBulkEntries entries + 1
  | .held _ => 1
def uptoBulkAll {H : Type} : List (DataW H) → Nat
  | [] => 0
  | d :: r => uptoBulk d + uptoBulkAll r
def uptoBulkEntries {H : Type} : List (Lit × DataW H) → Nat
  | [] => 0
  | x :: r => uptoBulkEntry x + uptoBulkEntries r
def uptoBulkEntry {H : Type} : Lit × DataW H → Nat
  | (.string bytes, d) => bytes.length + uptoBulk d + 1
  | (_, d) => uptoBulk d + 1
 end
def uptoSmall : (H : Type) → List (DataW H) → Bool := fun _ ds => decide (uptoBulkAll ds ≤ 1048576)
def OpenSpec.upto (s : _root_.Go.ChangeSpec) : _root_.Go.OpenSpec := { _root_.Go.OpenSpec.ofChange s with cond := some uptoSmall }

/-- 'capstanlaw07.MethodTells', WHERE WHAT IT READS IS OF BULK AT MOST 1048576: true; the input reads as it did. -/
def methodTellsUptoRow : OpenClaim := { program := "ytjdalgejejllgaadoor", sum := "6b8045ee1173ca5dc94cc2dc97139504b856ddeea95ce7199b3a4aff40e1e583", func := "capstan/capstanlaw07.MethodTells", spec := "methodTells", unfollowed := true, recurses := true, named := ["capstan/method.kind", "capstan/method.result", "capstan/method.reads", "capstan/method.fuel", "capstan/method.stack", "capstan/method.heap"], apart := false, laid := [("capstan/method.kind", laid_capstan_method_kind), ("capstan/method.result", laid_capstan_method_result), ("capstan/method.reads", laid_capstan_method_reads), ("capstan/method.fuel", laid_capstan_method_fuel), ("capstan/method.stack", laid_capstan_method_stack), ("capstan/method.heap", laid_capstan_method_heap)], narrowed := true }
def MethodTellsUptoSaid : Prop := methodTellsUptoRow.holds Tryd.pinned (OpenSpec.upto methodTellsSpec)

/-- 'capstanlaw07.MethodReads', WHERE WHAT IT READS IS OF BULK AT MOST 1048576: true; the input reads as it did. -/
def methodReadsUptoRow : OpenClaim := { program := "ytjdalgejejllgaadoor", sum := "6b8045ee1173ca5dc94cc2dc97139504b856ddeea95ce7199b3a4aff40e1e583", func := "capstan/capstanlaw07.MethodReads", spec := "methodReads", named := ["capstan/method.result", "capstan/method.reads", "capstan/method.fuel", "capstan/method.stack", "capstan/method.heap", "capstan/method.kind"], apart := false, laid := [("capstan/method.kind", laid_capstan_method_kind), ("capstan/method.result", laid_capstan_method_result), ("capstan/method.reads", laid_capstan_method_reads), ("capstan/method.fuel", laid_capstan_method_fuel), ("capstan/method.stack", laid_capstan_method_stack), ("capstan/method.heap", laid_capstan_method_heap)], narrowed := true }
def MethodReadsUptoSaid : Prop := methodReadsUptoRow.holds Tryd.pinned (OpenSpec.upto methodReadsSpec)

/-- 'capstanlaw07.MethodBack', WHERE WHAT IT READS IS OF BULK AT MOST 1048576: true; the input reads as it did. -/
def methodBackUptoRow : OpenClaim := { program := "ytjdalgejejllgaadoor", sum := "6b8045ee1173ca5dc94cc2dc97139504b856ddeea95ce7199b3a4aff40e1e583", func := "capstan/capstanlaw07.MethodBack", spec := "methodBack", unfollowed := true, recurses := true, named := ["capstan/method.kind", "capstan/method.result", "capstan/method.reads", "capstan/method.fuel", "capstan/method.stack", "capstan/method.heap"], apart := false, laid := [("capstan/method.kind", laid_capstan_method_kind), ("capstan/method.result", laid_capstan_method_result), ("capstan/method.reads", laid_capstan_method_reads), ("capstan/method.fuel", laid_capstan_method_fuel), ("capstan/method.stack", laid_capstan_method_stack), ("capstan/method.heap", laid_capstan_method_heap)], narrowed := true }
def MethodBackUptoSaid : Prop := methodBackUptoRow.holds Tryd.pinned (OpenSpec.upto methodBackSpec)

/-- 'capstanlaw07.MethodZeros', WHERE WHAT IT READS IS OF BULK AT MOST 1048576: true; the input reads as it did. -/
def methodZerosUptoRow : OpenClaim := { program := "ytjdalgejejllgaadoor", sum := "6b8045ee1173ca5dc94cc2dc97139504b856ddeea95ce7199b3a4aff40e1e583", func := "capstan/capstanlaw07.MethodZeros", spec := "methodZeros", unfollowed := true, recurses := true, named := ["capstan/method.kind", "capstan/method.result", "capstan/method.reads", "capstan/method.fuel", "capstan/method.stack", "capstan/method.heap"], apart := false, laid := [("capstan/method.kind", laid_capstan_method_kind), ("capstan/method.result", laid_capstan_method_result), ("capstan/method.reads", laid_capstan_method_reads), ("capstan/method.fuel", laid_capstan_method_fuel), ("capstan/method.stack", laid_capstan_method_stack), ("capstan/method.heap", laid_capstan_method_heap)], narrowed := true }
def MethodZerosUptoSaid : Prop := methodZerosUptoRow.holds Tryd.pinned (OpenSpec.upto methodZerosSpec)

/-- 'capstanlaw07.MethodSame', WHERE WHAT IT READS IS OF BULK AT MOST 1048576: true; the input reads as it did. -/
def methodSameUptoRow : OpenClaim := { program := "ytjdalgejejllgaadoor", sum := "6b8045ee1173ca5dc94cc2dc97139504b856ddeea95ce7199b3a4aff40e1e583", func := "capstan/capstanlaw07.MethodSame", spec := "methodSame", unfollowed := true, recurses := true, named := ["capstan/method.kind", "capstan/method.result", "capstan/method.reads", "capstan/method.fuel", "capstan/method.stack", "capstan/method.heap"], apart := false, laid := [("capstan/method.kind", laid_capstan_method_kind), ("capstan/method.result", laid_capstan_method_result), ("capstan/method.reads", laid_capstan_method_reads), ("capstan/method.fuel", laid_capstan_method_fuel), ("capstan/method.stack", laid_capstan_method_stack), ("capstan/method.heap", laid_capstan_method_heap)], narrowed := true }
def MethodSameUptoSaid : Prop := methodSameUptoRow.holds Tryd.pinned (OpenSpec.upto methodSameSpec)

end Rows
end Go.Proofs.YtjdalgejejllgaaDoor
