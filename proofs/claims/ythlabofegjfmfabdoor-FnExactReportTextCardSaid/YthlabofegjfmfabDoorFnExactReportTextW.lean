/- The walk of the law on the texts of reports: both functions answer alike. -/
import Derived.Test.YthlabofegjfmfabDoorTxI
import Derived.Test.YthlabofegjfmfabDoorTxS
import Derived.Test.YthlabofegjfmfabDoorRep
namespace Go.Proofs.YthlabofegjfmfabDoor
open Go.RowKit
set_option linter.unusedVariables false

set_option maxHeartbeats 1000000 in
theorem walk_FnExactReportText (z0 : Nat → Int) (w : World) (w0 : ∀ j, j < 4 → (Lit.int .i64 (z0 j)).wf = true) (T : Tabs w) :
    Calls Tryd.prog 6 #[.agg #[.int .i64 (z0 0), .int .i64 (z0 1), .int .i64 (z0 2), .int .i64 (z0 3)]] w fun e w' => e = .returned (.bool true) ∧ Below w.heap.size w w' := by
  generalize z0 0 = s, z0 1 = d, z0 2 = k, z0 3 = v
  have HT := Lib.hid T
  clear T
  go_enter Tryd.func6, Tryd.ntmps6
  go_wp2_with fail
  refine (toRep s d k v _).mono ?_
  rintro e w1 ⟨rfl, k1'⟩
  have k1 : Keep _ w1 := k1'
  clear k1'
  go_wp2_with fail
  refine (text_spec s d k v _).mono ?_
  rintro e w2 ⟨rfl, k2⟩
  have k12 := k1.trans k2
  have c0 := Keep.new k12 0 (v := .int .i64 s) rfl
  have c1 := Keep.new k12 1 (v := .int .i64 d) rfl
  have c2 := Keep.new k12 2 (v := .int .i64 k) rfl
  have c3 := Keep.new k12 3 (v := .int .i64 v) rfl
  have kw2 : Keep w w2 := ((Keep.refl w).alloc _).trans k12
  go_wp2_with fail
  refine (toRep s d k v _).mono ?_
  rintro e w3 ⟨rfl, k3'⟩
  have k3 : Keep w2 w3 := k3'
  clear k3'
  go_wp2_with fail
  refine (text_impl s d k v _ (HT.out.keep (kw2.trans k3))).mono ?_
  rintro e w4 ⟨rfl, k4⟩
  go_wp2
  go_ret
  exact ⟨rfl, (kw2.trans k3).trans k4⟩
end Go.Proofs.YthlabofegjfmfabDoor
