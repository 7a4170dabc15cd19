/- How quotients are drawn. -/
import Derived.Test.YtdccpdclpidnbaaDrHr
import Derived.Test.YtdccpdclpidnbaaRd
import Derived.Test.YtdccpdclpidnbaaKeep
import Derived.IntWalk
import Derived.Lib.Hide
import Derived.Outline
import Derived.Deep.RegionWith
namespace Go.Proofs.Ytdccpdclpidnbaa
open Go.RowKit
set_option linter.unusedVariables false

theorem lt_out {a B : Nat} {w9 W w10 : World} (h : a < w9.heap.size) (ho : Only B W w10) (hs : w9.heap.size ≤ W.heap.size) : a < w10.heap.size := Nat.lt_of_lt_of_le h (Nat.le_trans hs ho.size)
end Go.Proofs.Ytdccpdclpidnbaa
