/- The walk of the law: what is read can be written. -/
import Derived.Test.YthlabofegjfmfabDoorTxI
import Derived.Test.YthlabofegjfmfabDoorDrPb
import Derived.Test.YthlabofegjfmfabDoorCur3
import Derived.Test.YthlabofegjfmfabDoorSp3
namespace Go.Proofs.YthlabofegjfmfabDoor
open Go.RowKit
set_option linter.unusedVariables false

set_option maxHeartbeats 2000000 in
theorem walk_FnReportParse (a0 : Option Addr) (len0 cap0 : Nat) (z0 : List Int) (w : World) (w0 : IsRow .u8 w a0 len0 cap0 z0) (T : Tabs w) :
    Calls Tryd.prog 5 #[.slice a0 len0 cap0] w fun e w' => e = .returned (.bool true) ∧ Below w.heap.size w w' := by
  have ha := code_of_row w0
  obtain ⟨hl, hm⟩ := ha.1
  unfold maxLen at hm
  clear w0
  have HT := Lib.hid T
  clear T
  by_cases h : len0 ≤ 1048576
  · have hd : decide (1048576 < (len0 : Int)) = false := by simp; omega
    go_enter Tryd.func5, Tryd.ntmps5
    go_wp2_with fail
    refine (drawReportParse a0 len0 cap0 _ ha).mono ?_
    rintro e w1 ⟨t, rfl, ht, k1⟩
    go_wp2_with fail
    refine (rp_impl t _ (by omega)).mono ?_
    rintro e w2 ⟨hp, k2⟩
    rcases hp with ⟨s, d, k, v, h1, h2, rfl⟩ | ⟨h1, rfl⟩
    · have HP := Lib.hid (show Parsed t.data.toList _ from .inl ⟨s, d, k, v, h1, h2, rfl⟩)
      have HX := Lib.hid (show tx s d k v = t by rw [tx_yes h2, ← rep_txt h1])
      have HR := Lib.hid h2
      clear h1 h2
      go_wp2_with fail
      refine (rp_spec t _ (by omega)).mono ?_
      rintro e w3 ⟨he3, k3⟩
      have hE := he3.same HP.out
      subst hE
      clear he3
      have x0 := Keep.new k3 0 (v := .int .i64 s) rfl
      have x1 := Keep.new k3 1 (v := .int .i64 d) rfl
      have x2 := Keep.new k3 2 (v := .int .i64 k) rfl
      have x3 := Keep.new k3 3 (v := .int .i64 v) rfl
      have hb : w2.heap.size < w3.heap.size := World.block_lt_of_cell? w3 _ x0
      have kf := ((k1.trans k2).alloc _).trans k3
      clear k3
      go_wp2_with fail
      refine (text_impl s d k v _ (HT.out.keep (kf.alloc _))).mono ?_
      rintro e w4 ⟨rfl, k4⟩
      rw [HX.out]
      have y0 := k4.cell (b := w2.heap.size) (o := 0) (v := .int .i64 s) (by go_simp)
      have y1 := k4.cell (b := w2.heap.size) (o := 1) (v := .int .i64 d) (by go_simp)
      have y2 := k4.cell (b := w2.heap.size) (o := 2) (v := .int .i64 k) (by go_simp)
      have y3 := k4.cell (b := w2.heap.size) (o := 3) (v := .int .i64 v) (by go_simp)
      go_wp2_with fail
      refine (rv_impl s d k v _).mono ?_
      rintro e w5 ⟨rfl, k5⟩
      rw [HR.out]
      go_wp2
      go_ret
      exact ⟨rfl, ((kf.alloc _).trans k4).trans k5⟩
    · have HP := Lib.hid (show Parsed t.data.toList _ from .inr ⟨h1, rfl⟩)
      clear h1
      go_wp2_with fail
      refine (rp_spec t _ (by omega)).mono ?_
      rintro e w3 ⟨he3, k3⟩
      have hE := he3.same HP.out
      subst hE
      clear he3
      have x0 := Keep.new k3 0 (v := .int .i64 0) rfl
      have x1 := Keep.new k3 1 (v := .int .i64 0) rfl
      have x2 := Keep.new k3 2 (v := .int .i64 0) rfl
      have x3 := Keep.new k3 3 (v := .int .i64 0) rfl
      have hb : w2.heap.size < w3.heap.size := World.block_lt_of_cell? w3 _ x0
      have kf := ((k1.trans k2).alloc _).trans k3
      clear k3
      go_wp2
      go_ret
      exact ⟨rfl, kf.alloc _⟩
  · have hd : decide (1048576 < (len0 : Int)) = true := by simp; omega
    go_enter Tryd.func5, Tryd.ntmps5
    go_wp2
    go_ret
    exact ⟨rfl, Below.refl _ _⟩
end Go.Proofs.YthlabofegjfmfabDoor
