/- The walk of the law on parsed reports: the program and its model answer the same report. -/
import Derived.Test.YtalkfggkpjakiabCur3
import Derived.Test.YtalkfggkpjakiabSp3
namespace Go.Proofs.Ytalkfggkpjakiab
open Go.RowKit
set_option linter.unusedVariables false

set_option maxHeartbeats 400000 in
theorem eqRep (s d k v : Int) (w : World) :
    Calls Try.prog 27 #[.agg #[.int .i64 s, .int .i64 d, .int .i64 k, .int .i64 v], .agg #[.int .i64 s, .int .i64 d, .int .i64 k, .int .i64 v]] w fun e w' => e = .returned (.bool true) ∧ Keep w w' := by
  go_enter Try.func27, Try.ntmps27
  go_wp2
  go_ret
  exact ⟨rfl, ((Keep.refl _).alloc _).alloc _⟩

set_option maxHeartbeats 1000000 in
theorem walk_FnExactReportParse (a0 : ByteArray) (w : World) (w0 : a0.size ≤ maxLen) :
    Calls Try.prog 6 #[.string a0] w fun e w' => e = .returned (.bool true) ∧ Below w.heap.size w w' := by
  unfold maxLen at w0
  by_cases h : a0.size ≤ 1048576
  · have hd : decide (1048576 < (a0.size : Int)) = false := by simp; omega
    go_enter Try.func6, Try.ntmps6
    go_wp2_with fail
    refine (rp_spec a0 _ h).mono ?_
    rintro e w1 ⟨he, k1⟩
    obtain ⟨s, d, k, v, b, hE⟩ : ∃ (s d k v : Int) (b : Bool), e = .returned (.tuple #[.agg #[.int .i64 s, .int .i64 d, .int .i64 k, .int .i64 v], .bool b]) := by
      rcases he with ⟨s, d, k, v, _, _, h⟩ | ⟨_, h⟩
      · exact ⟨s, d, k, v, true, h⟩
      · exact ⟨0, 0, 0, 0, false, h⟩
    subst hE
    have HE := Lib.hid he
    clear he
    go_wp2_with fail
    refine (rp_impl a0 _ h).mono ?_
    rintro e w2 ⟨he2, k2⟩
    have hE2 := he2.same HE.out
    subst hE2
    clear he2
    have x0 := k2.new 0 (v := .int .i64 s) rfl
    have x1 := k2.new 1 (v := .int .i64 d) rfl
    have x2 := k2.new 2 (v := .int .i64 k) rfl
    have x3 := k2.new 3 (v := .int .i64 v) rfl
    have hz : w1.heap.size < w2.heap.size := World.block_lt_of_cell? w2 _ x0
    go_wp2_with fail
    refine (eqRep s d k v _).mono ?_
    rintro e w3 ⟨rfl, k3⟩
    go_wp2
    go_ret
    exact ⟨rfl, ((((k1.alloc _).trans k2).alloc _).trans k3)⟩
  · have hd : decide (1048576 < (a0.size : Int)) = true := by simp; omega
    go_enter Try.func6, Try.ntmps6
    go_wp2
    go_ret
    exact ⟨rfl, Below.refl _ _⟩
end Go.Proofs.Ytalkfggkpjakiab
