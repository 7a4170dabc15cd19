/- The walk of the law: only valid reports have a text. -/
import Derived.Test.YthlabofegjfmfabDoorTxI
import Derived.Test.YthlabofegjfmfabDoorTxS
import Derived.Test.YthlabofegjfmfabDoorDrPa
import Derived.Test.YthlabofegjfmfabDoorRv
namespace Go.Proofs.YthlabofegjfmfabDoor
open Go.RowKit
set_option linter.unusedVariables false

set_option maxHeartbeats 1000000 in
theorem walk_FnReportTextBad (a0 : Option Addr) (len0 cap0 : Nat) (z0 : List Int) (w : World) (w0 : IsRow .u8 w a0 len0 cap0 z0) (T : Tabs w) :
    Calls Tryd.prog 4 #[.slice a0 len0 cap0] w fun e w' => e = .returned (.bool true) ∧ Below w.heap.size w w' := by
  have ha := code_of_row w0
  obtain ⟨hl, hm⟩ := ha.1
  unfold maxLen at hm
  clear w0
  have HT := Lib.hid T
  clear T
  by_cases h : len0 ≤ 1048576
  · have hd : decide (1048576 < (len0 : Int)) = false := by simp; omega
    go_enter Tryd.func4, Tryd.ntmps4
    go_wp2_with fail
    refine (drawReportText a0 len0 cap0 _ ha).mono ?_
    rintro e w1 ⟨s, d, k, v, rfl, hs, hd, hk, hv, hb1⟩
    have k1 : Keep w w1 := hb1
    clear hs hd hk hv hb1
    have he := tx_empty s d k v
    go_wp2_with fail
    refine (text_impl s d k v _ (HT.out.keep (k1.alloc _))).mono ?_
    rintro e w2 ⟨rfl, k2⟩
    have c20 := Keep.new k2 0 (v := .int .i64 s) rfl
    have c21 := Keep.new k2 1 (v := .int .i64 d) rfl
    have c22 := Keep.new k2 2 (v := .int .i64 k) rfl
    have c23 := Keep.new k2 3 (v := .int .i64 v) rfl
    go_wp2_with fail
    refine (text_spec s d k v _).mono ?_
    rintro e w3 ⟨rfl, k3⟩
    have c30 := k3.cell c20
    have c31 := k3.cell c21
    have c32 := k3.cell c22
    have c33 := k3.cell c23
    clear c20 c21 c22 c23
    go_wp2_with fail
    refine (rv_impl s d k v _).mono ?_
    rintro e w4 ⟨rfl, k4⟩
    have kf := (((k1.alloc _).trans k2).trans k3).trans k4
    have HE := Lib.hid he
    clear he
    rcases Bool.eq_false_or_eq_true (rOk s d k v) with hr | hr <;> have hq := HE.out <;> rw [hr] at hq <;> rw [hr]
    · go_wp2
      go_ret
      refine ⟨retB ?_, kf⟩
      first | rfl | (simp [hq]; done)
    · go_wp2
      go_ret
      refine ⟨retB ?_, kf⟩
      first | rfl | (simp [hq]; done)
  · have hd : decide (1048576 < (len0 : Int)) = true := by simp; omega
    go_enter Tryd.func4, Tryd.ntmps4
    go_wp2
    go_ret
    exact ⟨rfl, Below.refl _ _⟩
end Go.Proofs.YthlabofegjfmfabDoor
