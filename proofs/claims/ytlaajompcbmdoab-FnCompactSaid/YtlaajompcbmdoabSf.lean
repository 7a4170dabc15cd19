/- Series of a store: the program's function and the model's. -/
import Derived.Test.YtlaajompcbmdoabSe
namespace Go.Proofs.Ytlaajompcbmdoab
open Go.RowKit
set_option linter.unusedVariables false

theorem ssOk_v {rs : List R4} {v s t f n : Int} (h : vrB rs v = false) : ssOk rs v s t f n = false := by simp [ssOk, h]
theorem ssOk_s {rs : List R4} {v s t f n : Int} (h : saB s t f n = false) : ssOk rs v s t f n = false := by simp [ssOk, h]
theorem infoIntS : (Try.prog.info? 3).map (fun i => (i.zero, i.size, i.bytes)) = some (some (.int .i64 0), 1, 8) := by kernel_rfl
theorem serN_at {rs : List R4} {v : Nat} {s t f : Int} {m k : Nat} (h : k < m) : (serN rs v s t f m).getD k 0 = vN rs s (f + (k : Int)) t v := by
  simp [serN, List.getD_eq_getElem?_getD, h]

end Go.Proofs.Ytlaajompcbmdoab
