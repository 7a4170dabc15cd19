/- The program's text of a report. -/
import Derived.Test.YtpdpcnblpcalaaaDoorTx
import Derived.Test.YtpdpcnblpcalaaaDoorTab
import Derived.Test.YtpdpcnblpcalaaaDoorShelf
namespace Go.Proofs.YtpdpcnblpcalaaaDoor
open Go.RowKit Go.Lib
set_option linter.unusedVariables false

theorem keep_grow (w : World) (q : Nat) (os : Array Obj) : Keep w (Go.Sort.grow (w.drewN q) os) :=
  ⟨rfl, rfl, rfl, by simp [Go.Sort.grow], fun i hi => by
    show ((w.drewN q).heap ++ os)[i]? = _
    rw [Array.getElem?_append_left (by show i < w.heap.size; omega)]
    rfl⟩
theorem itoa_any (n : Int) (w : World) (T : Tabs w) (h0 : -99999 ≤ n) (h1 : n ≤ 99999) :
    Calls Tryd.prog 42 #[.int .i64 n] w fun e w' => e = .returned (.string (dtx n)) ∧ Keep w w' :=
  (Tryd.strconv_Itoa n (by omega) (by omega) w T).mono fun e w' ⟨he, k, os, hw⟩ => ⟨he, by rw [hw]; exact keep_grow w k os⟩
end Go.Proofs.YtpdpcnblpcalaaaDoor
