/- SumBetween: the program answers as its model, and leaves its argument alone. -/
import Derived.Test.YtdccpdclpidnbacSb2
import Derived.Test.YtdccpdclpidnbacUr
import Derived.Test.YtdccpdclpidnbacFr
namespace Go.Proofs.Ytdccpdclpidnbac
open Go.RowKit
set_option linter.unusedVariables false

set_option maxRecDepth 100000 in
set_option maxHeartbeats 1000000 in
theorem walk_FnExactSumBetween (a0 : Option Addr) (len0 cap0 : Nat) (z0 : Nat → Nat → Int) (a1 : Int) (a2 : Int) (w : World) (w0 : IsRows 2 w a0 len0 cap0 z0) (w1 : (Lit.int .i64 a1).wf = true) (w2 : (Lit.int .i64 a2).wf = true) :
    Calls Try.prog 15 #[.slice a0 len0 cap0, .int .i64 a1, .int .i64 a2] w fun e w' => e = .returned (.bool true) ∧ Below w.heap.size w w' := by
  clear w1 w2
  obtain ⟨y0, hl0, hL0, ⟨hm0, hM0⟩⟩ := rr_of_rows w0
  subst hl0
  clear w0
  unfold maxLen at hM0
  by_cases h0 : y0.length ≤ 1048576
  case' neg =>
    go_enter Try.func15, Try.ntmps15
    go_wp2_with (go_at_call 44; refine (szU_big _ _ _ _ (by omega) (by omega)).mono ?_; rintro e w' ⟨rfl, rfl⟩)
    go_ret
    exact ⟨rfl, Below.refl _ _⟩
  have hd0 : decide (1048576 - (y0.length : Int) < 0) = false := by simp; omega
  have HS := Lib.hid (fun a c W (h : Rr W a y0) => sb_specA a c y0 a1 a2 W h h0)
  have HI := Lib.hid (fun a c W (h : Rr W a y0) => sb_implA a c y0 a1 a2 W h h0)
  generalize sbV y0 a1 a2 = V at HS HI
  generalize sbB y0 a1 a2 = B at HS HI
  obtain ⟨v1, v2⟩ := V
  go_enter Try.func15, Try.ntmps15
  go_wp2_with fail
  refine (szU_any _ _ _ _ h0).mono ?_
  rintro e w' ⟨rfl, rfl⟩
  go_wp2_with fail
  refine (toU_any _ _ y0 _ hL0 h0).mono ?_
  rintro e w1 ⟨g1, hg1, rfl, hW1, k1, hl_k1⟩
  have c1 : Keep w w1 := Keep.trans (Keep.refl w) k1
  go_wp2_with fail
  refine (HS.out _ _ _ hW1.rr).mono ?_
  rintro e w2 ⟨rfl, k2⟩
  have c2 : Keep w w2 := Keep.trans c1 k2
  go_wp2_with fail
  refine (toU_any _ _ y0 _ (hL0.keep (c2.alloc _)) h0).mono ?_
  rintro e w3 ⟨g3, hg3, rfl, hW3, k3, hl_k3⟩
  have c3 := (c2.alloc (.cells #[.int .i64 v1, .int .i64 v2] 41)).trans k3
  have s0 : w3.cell? ⟨w2.heap.size, 0, none⟩ = some (.int .i64 v1) := k3.new 0 rfl
  have s1 : w3.cell? ⟨w2.heap.size, 1, none⟩ = some (.int .i64 v2) := k3.new 1 rfl
  go_wp2_with fail
  refine (HI.out _ _ _ hW3.rr).mono ?_
  rintro e w4 ⟨rfl, k4⟩
  have c4 := (c3.trans k4).alloc (.cells #[.int .i64 v1, .int .i64 v2] 41)
  have k4' := k4.alloc (.cells #[.int .i64 v1, .int .i64 v2] 41)
  have S0 := k4'.cell s0
  have S1 := k4'.cell s1
  clear s0 s1
  go_wp2_with fail
  refine (eqRange_same v1 v2 _).mono ?_
  rintro e w5 ⟨rfl, k5⟩
  have c5 := c4.trans k5
  go_wp2_with fail
  refine (toU_any _ _ y0 _ (hL0.keep c5) h0).mono ?_
  rintro e w6 ⟨g6, hg6, rfl, hW6, k6, hl_k6⟩
  have c6 := c5.trans k6
  have hx := ((hW3.keep k4').keep k5).keep k6
  go_wp2_with fail
  refine (eqU_same _ _ _ _ y0 _ hx.rr hW6.rr h0).mono ?_
  rintro e w7 ⟨rfl, k7⟩
  go_wp2
  go_ret
  exact ⟨rfl, c6.trans k7⟩
end Go.Proofs.Ytdccpdclpidnbac
