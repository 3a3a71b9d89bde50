/-
  DERIVED. GIVEN WITH THE SEED: THE CARDS: each row of YtjdalgejejllgaaDoorRows.lean that lists a variable, with what it lists TIED to the program's text (the seventh form; the later family's looks); each row that meets fmt, with fmt's text TOLD by the authors' own Lean function (tested against real Go, not proved from fmt's source: count such statements apart). THE CARD IS WHAT COUNTS. Prove the row's statement (the work); the ties are given (YtjdalgejejllgaaDoorTie.lean); close each card by the builder's one call (the guide's Derived/Test/ToyasCard.lean, 'card_holds'). Laid BY PROGRAM, IN A SANDBOX (cutbox-door.mjs). By AI agents, Wed Nov 11 2026. No macro, syntax, notation, axiom, sorry.
-/
import Derived.Test.YtjdalgejejllgaaDoorRows
import GoSem.ClaimSeven
namespace Go.Proofs.YtjdalgejejllgaaDoor
namespace Rows

/-- THE TIED CARD OF 'capstanlaw07.MethodTells'. -/
def methodTellsCard : Claim7 := { stood := { row := methodTellsRow, standIns := [], harness := (true, "e793614ed75a89515cfbf2225910435e2da59df78606a614a5f09c41717a7ac0"), looks := false }, kinds := [], alts := [], laidByText := true, laidKinds := [.data, .data, .data, .data, .data, .data], laidTests := true, laidLooks := .later }
def MethodTellsCardSaid : Prop := Claim7.holds Tryd.pinned (.plain (OpenSpec.ofChange methodTellsSpec)) methodTellsCard

/-- THE TIED CARD OF 'capstanlaw07.MethodReads'. -/
def methodReadsCard : Claim7 := { stood := { row := methodReadsRow, standIns := [], harness := (true, "e793614ed75a89515cfbf2225910435e2da59df78606a614a5f09c41717a7ac0"), looks := false }, kinds := [], alts := [], laidByText := true, laidKinds := [.data, .data, .data, .data, .data, .data], laidTests := true, laidLooks := .later }
def MethodReadsCardSaid : Prop := Claim7.holds Tryd.pinned (.plain (OpenSpec.ofChange methodReadsSpec)) methodReadsCard

/-- THE TIED CARD OF 'capstanlaw07.MethodBack'. -/
def methodBackCard : Claim7 := { stood := { row := methodBackRow, standIns := [], harness := (true, "e793614ed75a89515cfbf2225910435e2da59df78606a614a5f09c41717a7ac0"), looks := false }, kinds := [], alts := [], laidByText := true, laidKinds := [.data, .data, .data, .data, .data, .data], laidTests := true, laidLooks := .later }
def MethodBackCardSaid : Prop := Claim7.holds Tryd.pinned (.plain (OpenSpec.ofChange methodBackSpec)) methodBackCard

/-- THE TIED CARD OF 'capstanlaw07.MethodZeros'. -/
def methodZerosCard : Claim7 := { stood := { row := methodZerosRow, standIns := [], harness := (true, "e793614ed75a89515cfbf2225910435e2da59df78606a614a5f09c41717a7ac0"), looks := false }, kinds := [], alts := [], laidByText := true, laidKinds := [.data, .data, .data, .data, .data, .data], laidTests := true, laidLooks := .later }
def MethodZerosCardSaid : Prop := Claim7.holds Tryd.pinned (.plain (OpenSpec.ofChange methodZerosSpec)) methodZerosCard

/-- THE TIED CARD OF 'capstanlaw07.MethodSame'. -/
def methodSameCard : Claim7 := { stood := { row := methodSameRow, standIns := [], harness := (true, "e793614ed75a89515cfbf2225910435e2da59df78606a614a5f09c41717a7ac0"), looks := false }, kinds := [], alts := [], laidByText := true, laidKinds := [.data, .data, .data, .data, .data, .data], laidTests := true, laidLooks := .later }
def MethodSameCardSaid : Prop := Claim7.holds Tryd.pinned (.plain (OpenSpec.ofChange methodSameSpec)) methodSameCard

/-- THE SECOND FORM's CARD OF 'capstanlaw07.MethodTells'. -/
def methodTellsUptoCard : Claim7 := { stood := { row := methodTellsUptoRow, standIns := [], harness := (true, "e793614ed75a89515cfbf2225910435e2da59df78606a614a5f09c41717a7ac0"), looks := false }, kinds := [], alts := [], laidByText := true, laidKinds := [.data, .data, .data, .data, .data, .data], laidTests := true, laidLooks := .later }
def MethodTellsUptoCardSaid : Prop := Claim7.holds Tryd.pinned (.plain (OpenSpec.upto methodTellsSpec)) methodTellsUptoCard

/-- THE SECOND FORM's CARD OF 'capstanlaw07.MethodReads'. -/
def methodReadsUptoCard : Claim7 := { stood := { row := methodReadsUptoRow, standIns := [], harness := (true, "e793614ed75a89515cfbf2225910435e2da59df78606a614a5f09c41717a7ac0"), looks := false }, kinds := [], alts := [], laidByText := true, laidKinds := [.data, .data, .data, .data, .data, .data], laidTests := true, laidLooks := .later }
def MethodReadsUptoCardSaid : Prop := Claim7.holds Tryd.pinned (.plain (OpenSpec.upto methodReadsSpec)) methodReadsUptoCard

/-- THE SECOND FORM's CARD OF 'capstanlaw07.MethodBack'. -/
def methodBackUptoCard : Claim7 := { stood := { row := methodBackUptoRow, standIns := [], harness := (true, "e793614ed75a89515cfbf2225910435e2da59df78606a614a5f09c41717a7ac0"), looks := false }, kinds := [], alts := [], laidByText := true, laidKinds := [.data, .data, .data, .data, .data, .data], laidTests := true, laidLooks := .later }
def MethodBackUptoCardSaid : Prop := Claim7.holds Tryd.pinned (.plain (OpenSpec.upto methodBackSpec)) methodBackUptoCard

/-- THE SECOND FORM's CARD OF 'capstanlaw07.MethodZeros'. -/
def methodZerosUptoCard : Claim7 := { stood := { row := methodZerosUptoRow, standIns := [], harness := (true, "e793614ed75a89515cfbf2225910435e2da59df78606a614a5f09c41717a7ac0"), looks := false }, kinds := [], alts := [], laidByText := true, laidKinds := [.data, .data, .data, .data, .data, .data], laidTests := true, laidLooks := .later }
def MethodZerosUptoCardSaid : Prop := Claim7.holds Tryd.pinned (.plain (OpenSpec.upto methodZerosSpec)) methodZerosUptoCard

/-- THE SECOND FORM's CARD OF 'capstanlaw07.MethodSame'. -/
def methodSameUptoCard : Claim7 := { stood := { row := methodSameUptoRow, standIns := [], harness := (true, "e793614ed75a89515cfbf2225910435e2da59df78606a614a5f09c41717a7ac0"), looks := false }, kinds := [], alts := [], laidByText := true, laidKinds := [.data, .data, .data, .data, .data, .data], laidTests := true, laidLooks := .later }
def MethodSameUptoCardSaid : Prop := Claim7.holds Tryd.pinned (.plain (OpenSpec.upto methodSameSpec)) methodSameUptoCard
end Rows
end Go.Proofs.YtjdalgejejllgaaDoor
