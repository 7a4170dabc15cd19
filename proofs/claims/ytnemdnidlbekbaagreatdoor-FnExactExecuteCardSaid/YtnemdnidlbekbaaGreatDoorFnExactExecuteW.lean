/- The law FnExactExecute: the program executes a script as the model does. -/
import Derived.Test.YtnemdnidlbekbaaGreatDoorMvlfjfofde
namespace Go.Proofs.YtnemdnidlbekbaaGreatDoor
open Go.RowKit
set_option linter.unusedVariables false

set_option maxRecDepth 100000 in
set_option maxHeartbeats 2000000 in
theorem walk_FnExactExecute (s : ByteArray) (w : World) (hs : s.size ≤ maxLen) (T : TabsZ w) :
    Calls Tryz.prog 11 #[.string s] w fun e w' => e = .returned (.bool true) ∧ Below w.heap.size w w' := by
  have HT := Lib.hid T
  clear T
  by_cases hl : (1048576 : Int) < (s.size : Int)
  · go_enter Tryz.func11, Tryz.ntmps11
    go_wp2
    go_ret
    exact ⟨rfl, Keep.refl _⟩
  · have HI := Lib.hid (fun W (k : Keep w W) => exec_impl s W (HT.out.tabs.keep k) (HT.out.maxl.keep k))
    have HS := Lib.hid (fun W => exec_spec s W)
    go_enter Tryz.func11, Tryz.ntmps11
    go_wp2_with fail
    refine (HS.out _).mono ?_
    rintro e w1 ⟨t1, rfl, he1, k1⟩
    go_wp2_with fail
    refine (HI.out _ k1).mono ?_
    rintro e w2 ⟨t2, rfl, he2, k2⟩
    obtain rfl : t2 = t1 := bytes_eqZ (he2.one he1)
    clear he1 he2
    have hd : (t2.toList != t2.toList) = false := by simp
    go_wp2
    go_ret
    exact ⟨rfl, k1.trans k2⟩
end Go.Proofs.YtnemdnidlbekbaaGreatDoor
