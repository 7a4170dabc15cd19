/- The model's text of a report. -/
import Derived.Test.YtnemdnidlbekbaaGreatDoorTxS1
import Derived.Test.YtnemdnidlbekbaaGreatDoorTxS2
import Derived.Test.YtnemdnidlbekbaaGreatDoorTxS3
namespace Go.Proofs.YtnemdnidlbekbaaGreatDoor
open Go.RowKit Go.Lib
set_option linter.unusedVariables false

theorem text_spec (s d k v : Int) (w : World) :
    Calls Tryz.prog 30 #[.agg #[.int .i64 s, .int .i64 d, .int .i64 k, .int .i64 v]] w fun e w' => e = .returned (.string (tx s d k v)) ∧ Keep w w' := by
  rcases Bool.eq_false_or_eq_true (rOk s d k v) with hr | hr
  · obtain ⟨hk, _⟩ := rOk_bd hr
    have hk3 : k = 1 ∨ k = 2 ∨ k = 3 := by simp [kOk] at hk; omega
    rcases hk3 with rfl | rfl | rfl
    · exact text_spec1 s d v w hr
    · exact text_spec2 s d v w hr
    · exact text_spec3 s d v w hr
  · have E := Lib.hid (tx_no hr)
    go_enter Tryz.func30, Tryz.ntmps30
    go_wp2_with fail
    refine (rv_spec s d k v _).mono ?_
    rintro e w1 ⟨rfl, k1⟩
    go_wp2
    go_ret
    exact ⟨retS E.out.symm, ((Keep.refl w).alloc _).trans k1⟩
end Go.Proofs.YtnemdnidlbekbaaGreatDoor
