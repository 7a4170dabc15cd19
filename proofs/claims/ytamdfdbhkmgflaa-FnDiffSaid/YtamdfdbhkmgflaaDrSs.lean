/- How a version of a store, and the days of a series, are drawn. -/
import Derived.Test.YtamdfdbhkmgflaaDrSa
namespace Go.Proofs.Ytamdfdbhkmgflaa
open Go.RowKit
set_option linter.unusedVariables false

theorem results_tmp4 {fn : Func} {t u v x : Tmp} (h : fn.results = #[.tmp t, .tmp u, .tmp v, .tmp x]) (tmps : Array Value) (P : Program) (w : World) :
    (results fn tmps).run P w = .ok (.tuple #[tmps.getD t undef, tmps.getD u undef, tmps.getD v undef, tmps.getD x undef]) w := by
  simp [results, h]
theorem results_tmp6 {fn : Func} {t u v x y z : Tmp} (h : fn.results = #[.tmp t, .tmp u, .tmp v, .tmp x, .tmp y, .tmp z]) (tmps : Array Value) (P : Program) (w : World) :
    (results fn tmps).run P w = .ok (.tuple #[tmps.getD t undef, tmps.getD u undef, tmps.getD v undef, tmps.getD x undef, tmps.getD y undef, tmps.getD z undef]) w := by
  simp [results, h]
set_option maxRecDepth 100000 in
set_option maxHeartbeats 1000000 in
theorem drawVersion (B p n : Nat) (w : World) (hp : p ≤ 5000) (hn : n ≤ 40) (hr : Rd w B p) :
    Calls Try.prog 21 #[.pointer (some ⟨B, 0, none⟩), .int .i64 (n : Int)] w fun e w' => ∃ (x : Int) (q : Nat), e = .returned (.int .i64 x) ∧ -50 ≤ x ∧ x ≤ 50 ∧ q ≤ p + 3 ∧ Rd w' B q ∧ Only B w w' := by
  go_enter Try.func21, Try.ntmps21
  go_wp2_with fail
  refine (pick_any B p 16 _ (by omega) (by omega) hr).mono ?_
  rintro e w1 ⟨z1, rfl, h10, h11, hr1, ho1, _⟩
  have hz : z1 = 0 ∨ (z1 == 0) = false := by by_cases h : z1 = 0 <;> simp [h]
  rcases hz with rfl | hz
  · go_wp2_with fail
    refine (pick_any B (p + 1) 3 _ (by omega) (by omega) (hr1.alloc _)).mono ?_
    rintro e w2 ⟨z2, rfl, h20, h21, hr2, ho2, _⟩
    have c0 := newCellO ho2 hr1.lt 0 _ rfl
    have c1 := newCellO ho2 hr1.lt 1 _ rfl
    have c2 := newCellO ho2 hr1.lt 2 _ rfl
    have ho3 : Only B w w2 := (ho1.alloc _).trans ho2
    have hz : z2 = 0 ∨ z2 = 1 ∨ z2 = 2 := by omega
    rcases hz with rfl | rfl | rfl
    all_goals
      go_wp2
      go_ret
      exact ⟨_, _, rfl, by omega, by omega, by omega, hr2, ho3⟩
  · go_wp2_with fail
    refine (pick_any B (p + 1) ((n : Int) + 1) _ (by omega) (by omega) hr1).mono ?_
    rintro e w2 ⟨z2, rfl, h20, h21, hr2, ho2, _⟩
    go_wp2_with fail
    refine (pick_any B (p + 2) 2 _ (by omega) (by omega) hr2).mono ?_
    rintro e w3 ⟨z3, rfl, h30, h31, hr3, ho3, _⟩
    have ho := (ho1.trans ho2).trans ho3
    have hz : z3 = 0 ∨ z3 = 1 := by omega
    rcases hz with rfl | rfl
    all_goals
      go_wp2
      go_ret
      exact ⟨_, _, rfl, by omega, by omega, by omega, hr3, ho⟩
end Go.Proofs.Ytamdfdbhkmgflaa
