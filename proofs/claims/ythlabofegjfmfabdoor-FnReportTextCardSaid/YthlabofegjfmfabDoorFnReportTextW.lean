/- The walk of the law: a text of a report is read. -/
import Derived.Test.YthlabofegjfmfabDoorTxI
import Derived.Test.YthlabofegjfmfabDoorTxS
import Derived.Test.YthlabofegjfmfabDoorDrPa
import Derived.Test.YthlabofegjfmfabDoorCur3
namespace Go.Proofs.YthlabofegjfmfabDoor
open Go.RowKit
set_option linter.unusedVariables false

set_option maxHeartbeats 2000000 in
theorem walk_FnReportText (a0 : Option Addr) (len0 cap0 : Nat) (z0 : List Int) (w : World) (w0 : IsRow .u8 w a0 len0 cap0 z0) (T : Tabs w) :
    Calls Tryd.prog 3 #[.slice a0 len0 cap0] w fun e w' => e = .returned (.bool true) ∧ Below w.heap.size w w' := by
  have ha := code_of_row w0
  obtain ⟨hl, hm⟩ := ha.1
  unfold maxLen at hm
  clear w0
  have HT := Lib.hid T
  clear T
  by_cases h : len0 ≤ 1048576
  · have hd : decide (1048576 < (len0 : Int)) = false := by simp; omega
    go_enter Tryd.func3, Tryd.ntmps3
    go_wp2_with fail
    refine (drawReportText a0 len0 cap0 _ ha).mono ?_
    rintro e w1 ⟨s, d, k, v, rfl, hs, hd, hk, hv, hb1⟩
    have k1 : Keep w w1 := hb1
    clear hs hd hk hv hb1
    have he := Lib.hid (tx_empty s d k v)
    go_wp2_with fail
    refine (text_impl s d k v _ (HT.out.keep (k1.alloc _))).mono ?_
    rintro e w2 ⟨rfl, k2⟩
    have c20 := Keep.new k2 0 (v := .int .i64 s) rfl
    have c21 := Keep.new k2 1 (v := .int .i64 d) rfl
    have c22 := Keep.new k2 2 (v := .int .i64 k) rfl
    have c23 := Keep.new k2 3 (v := .int .i64 v) rfl
    go_wp2_with fail
    refine (text_spec s d k v _).mono ?_
    rintro e w3 ⟨rfl, k3⟩
    have c30 := k3.cell c20
    have c31 := k3.cell c21
    have c32 := k3.cell c22
    have c33 := k3.cell c23
    clear c20 c21 c22 c23
    rcases Bool.eq_false_or_eq_true (rOk s d k v) with hr | hr
    · have hq := he.out
      rw [hr] at hq
      have hsz := tx_size hr
      have HP := Lib.hid (show Rep (tx s d k v).data.toList s d k v by rw [tx_yes hr]; exact txt_rep hr)
      have HR := Lib.hid hr
      clear hr
      generalize tx s d k v = t at *
      go_wp2_with fail
      refine (rp_impl t _ (by omega)).mono ?_
      rintro e w4 ⟨hp, k4⟩
      rcases hp with ⟨s', d', k', v', h1, h2, rfl⟩ | ⟨h1, rfl⟩
      · obtain ⟨rfl, rfl, rfl, rfl⟩ := h1.unique HP.out
        have c40 := k4.cell c30
        have c41 := k4.cell c31
        have c42 := k4.cell c32
        have c43 := k4.cell c33
        have hb : w1.heap.size < w4.heap.size := World.block_lt_of_cell? w4 _ c40
        have kf := ((k1.alloc _).trans k2).trans (k3.trans k4)
        clear c30 c31 c32 c33 k2 k3 k4 h1 h2 hq k1 he
        go_wp2_with fail
        refine (rv_impl s' d' k' v' _).mono ?_
        rintro e w5 ⟨rfl, k5⟩
        rw [HR.out]
        go_wp2
        go_ret
        exact ⟨rfl, (kf.alloc _).trans k5⟩
      · exact absurd (h1 _ _ _ _ HP.out) (by rw [HR.out]; simp)
    · have hq := he.out
      rw [hr] at hq
      go_wp2
      go_ret
      exact ⟨rfl, ((k1.alloc _).trans k2).trans k3⟩
  · have hd : decide (1048576 < (len0 : Int)) = true := by simp; omega
    go_enter Tryd.func3, Tryd.ntmps3
    go_wp2
    go_ret
    exact ⟨rfl, Below.refl _ _⟩
end Go.Proofs.YthlabofegjfmfabDoor
