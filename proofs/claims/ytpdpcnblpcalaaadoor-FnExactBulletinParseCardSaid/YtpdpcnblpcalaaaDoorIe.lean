/- errors.Is at the program's own sentinel, after the kit's worked example. The number 5 (how many variables the program has) is this seat's: Tryd. -/
import Derived.Test.YtpdpcnblpcalaaaDoorGd
import Derived.WalkKit
import Derived.LaidEql
import Derived.Stop.Asserts
import Derived.RowKitTokens
namespace Go.Proofs.YtpdpcnblpcalaaaDoor
open Go.RowKit Go.Extern.Stop Go.Stop Go.Extern
set_option linter.unusedVariables false

theorem isTypeOf' (v : Value) (w : World) : (ReflectliteType.typeOf #[.iface 119 v]).run Tryd.prog w = .ok (.iface 92 (.agg #[.pointer (some ⟨5, 119, none⟩)])) w := by kernel_rfl
def cmpFn := ReflectliteType.method fun t => do Rtype.noPackHeld "Comparable" t; pure (.bool (← typeInfo t).comparable)
theorem isComparable' (w : World) : (cmpFn #[.agg #[.pointer (some ⟨5, 119, none⟩)]]).run Tryd.prog w = .ok (.bool true) w := by kernel_rfl
theorem isMethodC (v : Value) (w : World) : (Go.method 255 92 v "Comparable").run Tryd.prog w = .ok (96, v) w := by kernel_rfl
theorem isComp' : (Tryd.prog.info? 119).map (·.comparable) = some true := by kernel_rfl
theorem isSize' : (Tryd.prog.info? 143).map (·.size) = some 1 := by kernel_rfl
set_option maxRecDepth 100000 in
set_option maxHeartbeats 2000000 in
theorem is_in (a : Addr) (w : World) :
    Calls Tryd.prog 51 #[.iface 119 (.pointer (some a)), .iface 119 (.pointer (some a)), .bool true] w fun e w' => e = .returned (.bool true) ∧ w = w' := by
  obtain ⟨i, hi, hcmp⟩ := Option.map_eq_some_iff.1 isComp'
  obtain ⟨j, hj, hjs⟩ := Option.map_eq_some_iff.1 isSize'
  have heq := run_eql_iface_ptr_same (P := Tryd.prog) w a Tryd.underlying51 Tryd.underlying119 hi hcmp hj
  go_enter Tryd.func51, Tryd.ntmps51
  go_wp2_with fail
  refine wp_loop_rounds 1 ?_
  rw [rounds_succ]
  go_wp2
  go_ret
  exact ⟨rfl, rfl⟩
set_option maxRecDepth 100000 in
set_option maxHeartbeats 2000000 in
theorem is_same (a : Addr) (w : World) :
    Calls Tryd.prog 28 #[.iface 119 (.pointer (some a)), .iface 119 (.pointer (some a))] w fun e w' => e = .returned (.bool true) ∧ w = w' := by
  have h8 := @run_callFunc_extern Tryd.prog 50 _ ReflectliteType.typeOf Tryd.func50 (by kernel_rfl) (by kernel_rfl) (by kernel_rfl) (by kernel_rfl)
  have h32 := @run_callFunc_extern Tryd.prog 96 _ cmpFn Tryd.func96 (by kernel_rfl) (by kernel_rfl) (by kernel_rfl) (by kernel_rfl)
  have tT := isTypeOf'
  have cT := isComparable'
  have mR := isMethodC
  have HI := Lib.hid (fun W => is_in a W)
  go_enter Tryd.func28, Tryd.ntmps28
  go_wp2_with fail
  refine (HI.out _).mono ?_
  rintro e w1 ⟨rfl, rfl⟩
  go_wp2
  go_ret
  exact ⟨rfl, rfl⟩
end Go.Proofs.YtpdpcnblpcalaaaDoor
