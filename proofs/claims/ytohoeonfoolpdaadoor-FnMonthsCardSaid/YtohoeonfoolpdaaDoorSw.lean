/- The value that a version tells: the program's linked list and the model's loop answer 'vN'. -/
import Derived.Test.YtohoeonfoolpdaaDoorSv
import Derived.Test.YtohoeonfoolpdaaDoorRep
import Derived.Deep.LoopGhost
namespace Go.Proofs.YtohoeonfoolpdaaDoor
open Go.RowKit
set_option linter.unusedVariables false

def rM (s d t : Int) (r : R4) : Bool := decide (rS r = s) && decide (rD r = d) && decide (rK r = t)
/-- The value of the last of the first n reports of a key. -/
def vN (rs : List R4) (s d t : Int) : Nat → Int
  | 0 => -9999
  | n + 1 => if rM s d t (rs.getD n r0) then rV (rs.getD n r0) else vN rs s d t n

/-- The linked list of the first n reports. -/
def Chain (w : World) (rs : List R4) : Nat → Option Addr → Prop
  | 0, p => p = none
  | n + 1, p => ∃ (g : Nat) (q : Option Addr), p = some ⟨g, 0, none⟩ ∧ At4 w g 0 (rs.getD n r0) ∧ w.cell? ⟨g, 4, none⟩ = some (.pointer q) ∧ Chain w rs n q
theorem Chain.keep {w w' : World} {rs : List R4} (k : Keep w w') : ∀ {n : Nat} {p : Option Addr}, Chain w rs n p → Chain w' rs n p
  | 0, _, h => h
  | n + 1, _, ⟨g, q, hp, h4, hc, ht⟩ => ⟨g, q, hp, h4.keep k, k.cell hc, Chain.keep k ht⟩

end Go.Proofs.YtohoeonfoolpdaaDoor
