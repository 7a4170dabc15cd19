/- P169: what is out of limits is no report. -/
import Derived.Test.YtnemdnidlbekbaaGreatDoorMvlfjfofde
namespace Go.Proofs.YtnemdnidlbekbaaGreatDoor
open Go.RowKit
set_option linter.unusedVariables false

set_option maxRecDepth 1000000 in
set_option maxHeartbeats 6400000 in
theorem walk_FnScriptBad (a0 : Option Addr) (len0 cap0 : Nat) (z0 : List Int) (w : World) (w0 : IsRow .u8 w a0 len0 cap0 z0) (T : TabsZ w) :
    Calls Tryz.prog 10 #[.slice a0 len0 cap0] w fun e w' => e = .returned (.bool true) ∧ Below w.heap.size w w' := by
  have ha := code_of_row w0
  obtain ⟨hl0, hm0⟩ := ha.1
  unfold maxLen at hm0
  clear w0
  by_cases h : len0 ≤ 1048576
  case' neg =>
    have hd : decide (1048576 < (len0 : Int)) = true := by simp; omega
    go_enter Tryz.func10, Tryz.ntmps10
    go_wp2
    go_ret
    exact ⟨rfl, Below.refl _ _⟩
  have hd : decide (1048576 < (len0 : Int)) = false := by simp; omega
  have HT := Lib.hid T
  clear T
  have HD := Lib.hid (drawExecute a0 len0 cap0 w ha)
  go_enter Tryz.func10, Tryz.ntmps10
  go_wp2_with fail
  refine HD.out.mono ?_
  rintro e w1 ⟨s, rfl, hs, k1⟩
  go_wp2_with fail
  refine (exec_impl s _ (HT.out.tabs.keep k1) (HT.out.maxl.keep k1)).mono ?_
  rintro e w2 ⟨t, rfl, hx, k2⟩
  go_wp2_with fail
  refine (exec_spec s _).mono ?_
  rintro e w3 ⟨t2, rfl, hx2, k3⟩
  obtain rfl : t2 = t := both_one hx hx2
  have K3 : Keep w w3 := (k1.trans k2).trans k3
  have HX := Lib.hid hx
  have HT3 := Lib.hid (HT.out.keep K3)
  have hne : (t2.toList != t2.toList) = false := by simp
  clear hx hx2 k1 k2 k3 HD ha HT
  have HC := Lib.hid (exec_const ⟨#[115, 49, 32, 100, 49, 32, 116, 54, 48, 49, 10, 115, 49, 48, 32, 100, 49, 32, 116, 53, 10, 115, 49, 32, 100, 48, 49, 32, 116, 53, 10, 115, 49, 32, 100, 49, 32, 116, 45, 48, 10]⟩ ⟨#[119, 104, 97, 116, 10, 119, 104, 97, 116, 10, 119, 104, 97, 116, 10, 119, 104, 97, 116, 10, 114, 101, 112, 111, 114, 116, 115, 32, 48, 10]⟩ execBad w3 HT3.out)
  go_wp2_with fail
  refine HC.out.mono ?_
  rintro e w4 ⟨rfl, k4⟩
  have hc : ((⟨#[119, 104, 97, 116, 10, 119, 104, 97, 116, 10, 119, 104, 97, 116, 10, 119, 104, 97, 116, 10, 114, 101, 112, 111, 114, 116, 115, 32, 48, 10]⟩ : ByteArray).toList == [119, 104, 97, 116, 10, 119, 104, 97, 116, 10, 119, 104, 97, 116, 10, 119, 104, 97, 116, 10, 114, 101, 112, 111, 114, 116, 115, 32, 48, 10]) = true := by rw [Lib.toList_data]; rfl
  go_wp2
  go_ret
  exact ⟨rfl, K3.trans k4⟩
end Go.Proofs.YtnemdnidlbekbaaGreatDoor
