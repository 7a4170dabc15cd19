/- P136: the mean of a sum is its rounded quotient. -/
import Derived.Test.YtdccpdclpidnbaaDrSm2
import Derived.Test.YtdccpdclpidnbaaSmn
import Derived.Test.YtdccpdclpidnbaaFr
import Derived.LoopTactic
import Derived.IntWalk
namespace Go.Proofs.Ytdccpdclpidnbaa
open Go.RowKit
set_option linter.unusedVariables false

set_option maxRecDepth 100000 in
set_option maxHeartbeats 6400000 in
theorem walk_FnSumMeanRound (a0 : Option Addr) (len0 cap0 : Nat) (z0 : List Int) (w : World) (w0 : IsRow .u8 w a0 len0 cap0 z0) :
    Calls Try.prog 16 #[.slice a0 len0 cap0] w fun e w' => e = .returned (.bool true) ∧ Below w.heap.size w w' := by
  have ha := code_of_row w0
  obtain ⟨hl0, hm0⟩ := ha.1
  unfold maxLen at hm0
  clear w0
  by_cases h : len0 ≤ 1048576
  case' neg =>
    have hd : decide (1048576 < (len0 : Int)) = true := by simp; omega
    go_enter Try.func16, Try.ntmps16
    go_wp2
    go_ret
    exact ⟨rfl, Below.refl _ _⟩
  have hd : decide (1048576 < (len0 : Int)) = false := by simp; omega
  go_enter Try.func16, Try.ntmps16
  go_wp2_with fail
  refine (drawSumMean a0 len0 cap0 _ ha).mono ?_
  rintro e w1 ⟨n, d, rfl, _, _, k1⟩
  have HI := Lib.hid (smn_impl n d)
  have HS := Lib.hid (smn_spec n d)
  have HR := Lib.hid (fun W => ro_impl n d W)
  generalize ro n d = v at HI HS HR
  generalize roOk n d = B at HI HS HR
  clear ha
  go_wp2_with fail
  refine (HI.out _).mono ?_
  rintro e w2 ⟨rfl, k2⟩
  have s0 : w2.cell? ⟨w1.heap.size, 0, none⟩ = some (.int .i64 n) := k2.new 0 rfl
  have s1 : w2.cell? ⟨w1.heap.size, 1, none⟩ = some (.int .i64 d) := k2.new 1 rfl
  go_wp2_with fail
  refine (HS.out _).mono ?_
  rintro e w3 ⟨rfl, k3⟩
  have S0 := k3.cell s0
  have S1 := k3.cell s1
  clear s0 s1
  go_wp2_with fail
  refine (HR.out _).mono ?_
  rintro e w4 ⟨rfl, rfl⟩
  go_wp2
  go_ret
  exact ⟨rfl, ((k1.alloc _).trans k2).trans k3⟩

end Go.Proofs.Ytdccpdclpidnbaa
