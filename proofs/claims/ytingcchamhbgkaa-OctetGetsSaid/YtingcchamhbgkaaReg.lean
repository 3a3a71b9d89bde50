/-
  A region that draws its order: the condition on worlds may be made stronger on the way (behind a call that makes memory). No program is named here.
-/
import Derived.Test.YtingcchamhbgkaaMem
import Derived.Deep.RegionHeld3
namespace Go.Proofs.Ytingcchamhbgkaa
open Go.RowKit

theorem wpAnyH_swap {P : Program} {md : Region.Mode} {ops : Array Oper} {Q : Exit → Act → World → Prop} {S S' : World → Prop} (h : ∀ w, S' w → S w) :
    ∀ (fuel : Nat) (listed : Array Bool) (a : Act) (w : World), wpAnyH P md ops Q S' fuel listed a w → wpAnyH P md ops Q S fuel listed a w
  | 0, _, _, _, hh => hh
  | fuel + 1, _, _, _, hh => ⟨hh.1, fun i hi => wpOp_mono (fun _ _ h2 => ⟨h _ h2.1, wpAnyH_swap h fuel _ _ _ h2.2⟩) (hh.2 i hi)⟩
end Go.Proofs.Ytingcchamhbgkaa
