/- Versions: keys, the value of a key in a version, and the first version with it ('voV'): the program and the model. -/
import Derived.Test.YtamdfdbhkmgflaaVe
import Derived.Test.YtamdfdbhkmgflaaSy
namespace Go.Proofs.Ytamdfdbhkmgflaa
open Go.RowKit
set_option linter.unusedVariables false

set_option maxHeartbeats 1000000 in
theorem vof_any (a : Option Addr) (cap : Nat) (rs : List R4) (v s d t : Int) (w : World) (h : Rs w a rs) (hm : rs.length ≤ 1048576) (hc : rs.length ≤ cap) :
    Calls Try.prog 11 #[.slice a rs.length cap, .int .i64 v, .agg #[.int .i64 s, .int .i64 d, .int .i64 t]] w fun e w' => e = .returned (.int .i64 (svV rs v s d t)) ∧ Keep w w' := by
  go_enter Try.func11, Try.ntmps11
  go_wp2_with fail
  refine (svv_impl a cap rs v s d t _ (h.alloc _) (by omega) hc).mono ?_
  rintro e w1 ⟨rfl, k1⟩
  have K : Keep w w1 := ((Keep.refl w).alloc _).trans k1
  go_wp2
  go_ret
  exact ⟨rfl, K⟩
set_option maxHeartbeats 1000000 in
theorem key_impl (s d t v : Int) (w : World) :
    Calls Try.prog 42 #[.agg #[.int .i64 s, .int .i64 d, .int .i64 t, .int .i64 v]] w fun e w' => e = .returned (.agg #[.int .i64 s, .int .i64 d, .int .i64 t]) ∧ Keep w w' := by
  go_enter Try.func42, Try.ntmps42
  go_wp2
  refine bodyPost_ret (v := .agg #[.int .i64 s, .int .i64 d, .int .i64 t]) (by simp [results, Try.results42, go_sem]) rfl ⟨rfl, ?_⟩
  repeat' (first | with_reducible exact Keep.refl w | with_reducible refine Keep.setCell ?_ (by simp) _ | with_reducible refine Keep.alloc ?_ _)
set_option maxHeartbeats 1000000 in
theorem key_spec (s d t v : Int) (w : World) :
    Calls Try.prog 29 #[.agg #[.int .i64 s, .int .i64 d, .int .i64 t, .int .i64 v]] w fun e w' => e = .returned (.agg #[.int .i64 s, .int .i64 d, .int .i64 t]) ∧ Keep w w' := by
  go_enter Try.func29, Try.ntmps29
  go_wp2
  refine bodyPost_ret (v := .agg #[.int .i64 s, .int .i64 d, .int .i64 t]) (by simp [results, Try.results29, go_sem]) rfl ⟨rfl, ?_⟩
  repeat' (first | with_reducible exact Keep.refl w | with_reducible refine Keep.setCell ?_ (by simp) _ | with_reducible refine Keep.alloc ?_ _)
set_option maxHeartbeats 1000000 in
theorem as_any (a : Option Addr) (len cap : Nat) (v : Int) (w : World) :
    Calls Try.prog 23 #[.slice a len cap, .int .i64 v] w fun e w' => e = .returned (.agg #[.slice a len cap, .int .i64 v]) ∧ Keep w w' := by
  go_enter Try.func23, Try.ntmps23
  go_wp2
  refine bodyPost_ret (v := .agg #[.slice a len cap, .int .i64 v]) (by simp [results, Try.results23, go_sem]) rfl ⟨rfl, ?_⟩
  repeat' (first | with_reducible exact Keep.refl w | with_reducible refine Keep.setCell ?_ (by simp) _ | with_reducible refine Keep.alloc ?_ _)
set_option maxRecDepth 100000 in
set_option maxHeartbeats 1000000 in
theorem val2_any (a : Option Addr) (cap : Nat) (rs : List R4) (v s d t : Int) (w : World) (h : Rs w a rs) (hm : rs.length ≤ 1048576) (hc : rs.length ≤ cap) :
    Calls Try.prog 27 #[.agg #[.slice a rs.length cap, .int .i64 v], .agg #[.int .i64 s, .int .i64 d, .int .i64 t]] w fun e w' => e = .returned (.int .i64 (svV rs v s d t)) ∧ Keep w w' := by
  go_enter Try.func27, Try.ntmps27
  go_wp2_with fail
  refine (svv_impl a cap rs v s d t _ ((h.alloc _).alloc _) (by omega) hc).mono ?_
  rintro e w1 ⟨rfl, k1⟩
  have K : Keep w w1 := (((Keep.refl w).alloc _).alloc _).trans k1
  go_wp2
  go_ret
  exact ⟨rfl, K⟩
end Go.Proofs.Ytamdfdbhkmgflaa
