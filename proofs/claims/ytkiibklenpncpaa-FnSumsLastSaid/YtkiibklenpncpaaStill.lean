/- A region that reads and calls quietly before one store: what stands behind is kept behind a name while its operations are walked. Nothing here speaks of the program. -/
import Derived.Test.YtkiibklenpncpaaRows
import Derived.WalkKit
import Derived.StillTailTactics
import Derived.Lib.Hide
namespace Go.Proofs.Ytkiibklenpncpaa
open Go.RowKit

theorem wpStill_hide {P : Program} {ops : Array Oper} {w : World} {Q : Act → Prop} {l : List Oper} {a : Act} (h : ∀ T : Act → Prop, Hid (∀ a, Q a → T a) → wpStill P ops w T l a) : wpStill P ops w Q l a :=
  h Q (Lib.hid (fun _ h => h))
end Go.Proofs.Ytkiibklenpncpaa
