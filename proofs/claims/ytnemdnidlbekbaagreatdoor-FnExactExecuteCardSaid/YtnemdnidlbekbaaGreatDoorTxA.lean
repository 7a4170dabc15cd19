/- 'Whatever order' with a condition that holds all along: a stronger condition serves. -/
import Derived.Test.YtnemdnidlbekbaaGreatDoorTx
namespace Go.Proofs.YtnemdnidlbekbaaGreatDoor
open Go.RowKit Go.Lib
set_option linter.unusedVariables false

theorem wpAnyH_mono {P : Program} {ops : Array Oper} {Q : Exit → Act → World → Prop} {md : Region.Mode} {S S2 : World → Prop} (hS : ∀ w, S2 w → S w) :
    ∀ (fuel : Nat) (listed : Array Bool) (a : Act) (w : World), wpAnyH P md ops Q S2 fuel listed a w → wpAnyH P md ops Q S fuel listed a w
  | 0, _, _, _, h => h
  | fuel + 1, _, _, _, h => ⟨h.1, fun i hi => wpOp_mono (fun a' w' h' => ⟨hS w' h'.1, wpAnyH_mono hS fuel _ a' w' h'.2⟩) (h.2 i hi)⟩
end Go.Proofs.YtnemdnidlbekbaaGreatDoor
