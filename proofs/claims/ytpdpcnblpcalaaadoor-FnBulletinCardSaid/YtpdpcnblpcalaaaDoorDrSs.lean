/- How a version of a store, and the days of a series, are drawn. -/
import Derived.Test.YtpdpcnblpcalaaaDoorDrSa
namespace Go.Proofs.YtpdpcnblpcalaaaDoor
open Go.RowKit
set_option linter.unusedVariables false

theorem results_tmp4 {fn : Func} {t u v x : Tmp} (h : fn.results = #[.tmp t, .tmp u, .tmp v, .tmp x]) (tmps : Array Value) (P : Program) (w : World) :
    (results fn tmps).run P w = .ok (.tuple #[tmps.getD t undef, tmps.getD u undef, tmps.getD v undef, tmps.getD x undef]) w := by
  simp [results, h]
theorem results_tmp6 {fn : Func} {t u v x y z : Tmp} (h : fn.results = #[.tmp t, .tmp u, .tmp v, .tmp x, .tmp y, .tmp z]) (tmps : Array Value) (P : Program) (w : World) :
    (results fn tmps).run P w = .ok (.tuple #[tmps.getD t undef, tmps.getD u undef, tmps.getD v undef, tmps.getD x undef, tmps.getD y undef, tmps.getD z undef]) w := by
  simp [results, h]
set_option maxRecDepth 100000 in
set_option maxHeartbeats 4000000 in
theorem drawDays (B p : Nat) (w : World) (hp : p ≤ 5000) (hr : Rd w B p) :
    Calls Tryd.prog 19 #[.pointer (some ⟨B, 0, none⟩)] w fun e w' => ∃ (a b c d : Int) (q : Nat), e = .returned (.tuple #[.int .i64 a, .int .i64 b, .int .i64 c, .int .i64 d]) ∧ (-20000 ≤ c ∧ c ≤ 20000) ∧ (0 ≤ d ∧ d ≤ 13) ∧ q ≤ p + 8 ∧ Rd w' B q ∧ Only B w w' := by
  go_enter Tryd.func19, Tryd.ntmps19
  go_wp2_with fail
  refine (pick_any B p 2 _ (by omega) (by omega) hr).mono ?_
  rintro e w1 ⟨z1, rfl, h10, h11, hr1, ho1, _⟩
  go_wp2_with fail
  refine (pick_any B (p + 1) 6 _ (by omega) (by omega) hr1).mono ?_
  rintro e w2 ⟨z2, rfl, h20, h21, hr2, ho2, _⟩
  have hz : z2 = 0 ∨ (z2 == 0) = false := by by_cases h : z2 = 0 <;> simp [h]
  rcases hz with rfl | hz
  case' inl =>
    go_wp2_with fail
    refine (pick_any B (p + 2) 5 _ (by omega) (by omega) hr2).mono ?_
    rintro e wk ⟨zk, rfl, hk0, hk1, hrk0, hok0, _⟩
    obtain ⟨q0, hq0, hrk⟩ : ∃ q0, q0 ≤ p + 3 ∧ Rd wk B q0 := ⟨_, Nat.le_refl _, hrk0⟩
    have hok : Only B w wk := (ho1.trans ho2).trans hok0
    clear hrk0 hok0 hr2 hr1
    go_wp2_with fail
  case' inr =>
    obtain ⟨wk, hwk⟩ : ∃ wk, wk = w2 := ⟨_, rfl⟩
    subst hwk
    obtain ⟨q0, hq0, hrk⟩ : ∃ q0, q0 ≤ p + 3 ∧ Rd wk B q0 := ⟨_, by omega, hr2⟩
    have hok : Only B w wk := ho1.trans ho2
    clear hr2 hr1
    go_wp2_with fail
  all_goals
    refine (pick_any B q0 4 _ (by omega) (by omega) hrk).mono ?_
    rintro e w4 ⟨z4, rfl, h40, h41, hr4, ho4, _⟩
    go_wp2_with fail
    refine (pick_any B (q0 + 1) 12 _ (by omega) (by omega) hr4).mono ?_
    rintro e w5 ⟨z5, rfl, h50, h51, hr5, ho5, _⟩
    go_wp2_with fail
    refine (pick_any B (q0 + 2) 20 _ (by omega) (by omega) hr5).mono ?_
    rintro e w6 ⟨y, rfl, hy0, hy1, hr6, ho6, _⟩
    have ho := ((hok.trans ho4).trans ho5).trans ho6
    have hyy : y = 0 ∨ y = 1 ∨ y = 2 ∨ ((y == 0) = false ∧ (y == 1) = false ∧ (y == 2) = false) := by by_cases h : y = 0 <;> by_cases h' : y = 1 <;> by_cases h'' : y = 2 <;> simp [h, h', h'']
    rcases hyy with rfl | rfl | rfl | ⟨hy2, hy3, hy4⟩
    · go_wp2_with fail
      refine (pick_any B (q0 + 3) 2 _ (by omega) (by omega) hr6).mono ?_
      rintro e w7 ⟨x, rfl, hx0, hx1, hr7, ho7, _⟩
      go_wp2
      try simp only [Exit.inBlock, Exit.then]
      refine bodyPost_ret (results_tmp4 rfl _ _ _) rfl ?_
      exact ⟨_, _, _, _, _, rfl, ⟨by omega, by omega⟩, ⟨by omega, by omega⟩, by omega, hr7, ho.trans ho7⟩
    · go_wp2_with fail
      refine (pick_any B (q0 + 3) 4 _ (by omega) (by omega) (hr6.alloc _)).mono ?_
      rintro e w7 ⟨x, rfl, hx0, hx1, hr7, ho7, _⟩
      have c0 := newCellO ho7 hr6.lt 0 _ rfl
      have c1 := newCellO ho7 hr6.lt 1 _ rfl
      have c2 := newCellO ho7 hr6.lt 2 _ rfl
      have c3 := newCellO ho7 hr6.lt 3 _ rfl
      have ho8 : Only B w w7 := (ho.alloc _).trans ho7
      have hx : x = 0 ∨ x = 1 ∨ x = 2 ∨ x = 3 := by omega
      rcases hx with rfl | rfl | rfl | rfl
      all_goals
        go_wp2
        try simp only [Exit.inBlock, Exit.then]
        refine bodyPost_ret (results_tmp4 rfl _ _ _) rfl ?_
        exact ⟨_, _, _, _, _, rfl, ⟨by omega, by omega⟩, ⟨by omega, by omega⟩, by omega, hr7, ho8⟩
    · go_wp2_with fail
      refine (pick_any B (q0 + 3) 2 _ (by omega) (by omega) hr6).mono ?_
      rintro e w7 ⟨x, rfl, hx0, hx1, hr7, ho7, _⟩
      go_wp2
      try simp only [Exit.inBlock, Exit.then]
      refine bodyPost_ret (results_tmp4 rfl _ _ _) rfl ?_
      exact ⟨_, _, _, _, _, rfl, ⟨by omega, by omega⟩, ⟨by omega, by omega⟩, by omega, hr7, ho.trans ho7⟩
    · go_wp2
      try simp only [Exit.inBlock, Exit.then]
      refine bodyPost_ret (results_tmp4 rfl _ _ _) rfl ?_
      exact ⟨_, _, _, _, _, rfl, ⟨by omega, by omega⟩, ⟨by omega, by omega⟩, by omega, hr6, ho⟩
end Go.Proofs.YtpdpcnblpcalaaaDoor
