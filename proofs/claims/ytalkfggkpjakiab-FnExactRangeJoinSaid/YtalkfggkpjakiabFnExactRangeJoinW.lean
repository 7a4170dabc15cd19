/- The walk of the law: the program and its model answer the same range. -/
import Derived.Test.YtalkfggkpjakiabRm
import Derived.Test.YtalkfggkpjakiabRt
import Derived.Deep.RegionHeld3
import Derived.Deep.DeepCutAuto
import Derived.Outline
namespace Go.Proofs.Ytalkfggkpjakiab
open Go.RowKit
set_option linter.unusedVariables false

set_option maxRecDepth 100000 in
set_option maxHeartbeats 3200000 in
theorem walk_FnExactRangeJoin (z0 z1 : Nat → Int) (w : World) (w0 : ∀ j, j < 2 → (Lit.int .i64 (z0 j)).wf = true) (w1 : ∀ j, j < 2 → (Lit.int .i64 (z1 j)).wf = true) :
    Calls Try.prog 12 #[.agg #[.int .i64 (z0 0), .int .i64 (z0 1)], .agg #[.int .i64 (z1 0), .int .i64 (z1 1)]] w fun e w' => e = .returned (.bool true) ∧ Below w.heap.size w w' := by
  clear w0 w1
  generalize z0 0 = a, z0 1 = b, z1 0 = c, z1 1 = d
  go_enter Try.func12, Try.ntmps12
  go_upto_region 1 with fail
  have c0 : ((w.alloc (.cells #[.int .i64 a, .int .i64 b] 45)).alloc (.cells #[.int .i64 c, .int .i64 d] 45)).cell? ⟨w.heap.size, 0, none⟩ = some (.int .i64 a) := by go_simp
  have c1 : ((w.alloc (.cells #[.int .i64 a, .int .i64 b] 45)).alloc (.cells #[.int .i64 c, .int .i64 d] 45)).cell? ⟨w.heap.size, 1, none⟩ = some (.int .i64 b) := by go_simp
  have c2 : ((w.alloc (.cells #[.int .i64 a, .int .i64 b] 45)).alloc (.cells #[.int .i64 c, .int .i64 d] 45)).cell? ⟨w.heap.size + 1, 0, none⟩ = some (.int .i64 c) := by go_simp
  have c3 : ((w.alloc (.cells #[.int .i64 a, .int .i64 b] 45)).alloc (.cells #[.int .i64 c, .int .i64 d] 45)).cell? ⟨w.heap.size + 1, 1, none⟩ = some (.int .i64 d) := by go_simp
  have k0 : Keep w ((w.alloc (.cells #[.int .i64 a, .int .i64 b] 45)).alloc (.cells #[.int .i64 c, .int .i64 d] 45)) := ((Keep.refl w).alloc _).alloc _
  generalize ((w.alloc (.cells #[.int .i64 a, .int .i64 b] 45)).alloc (.cells #[.int .i64 c, .int .i64 d] 45)) = W0 at *
  go_cut [5, 6] (fun s5 s6 wx => ∃ g : Nat, s5 = .pointer (some ⟨g, 0, none⟩) ∧ s6 = .bool (jOk a b c d) ∧ Keep W0 wx ∧ wx.cell? ⟨g, 0, none⟩ = some (.int .i64 (jLo a b c d)) ∧ wx.cell? ⟨g, 1, none⟩ = some (.int .i64 (jHi a b c d)))
  case first =>
    go_region_held3 (fun w' => Keep W0 w' ∧ w'.cell? ⟨w.heap.size, 0, none⟩ = some (.int .i64 a) ∧ w'.cell? ⟨w.heap.size, 1, none⟩ = some (.int .i64 b) ∧ w'.cell? ⟨w.heap.size + 1, 0, none⟩ = some (.int .i64 c) ∧ w'.cell? ⟨w.heap.size + 1, 1, none⟩ = some (.int .i64 d)) ((go_split_ands; refine (fun hK => ⟨hK, hK.cell c0, hK.cell c1, hK.cell c2, hK.cell c3⟩ : Keep W0 _ → _) ?_; (repeat' (first | with_reducible assumption | with_reducible exact Keep.refl _ | with_reducible refine Keep.drew ?_ | with_reducible refine Keep.alloc ?_ _ | with_reducible refine Keep.setCell ?_ (Nat.le_refl _) _ | with_reducible refine Keep.setCell ?_ (Keep.size (by assumption)) _ | with_reducible refine Keep.trans ?_ hk))))
      (first
      | (go_at_call_of 30 (Value.agg #[Value.int .i64 a, Value.int .i64 b]); refine (toRg a b _).mono ?_; rintro e w' ⟨rfl, hk⟩; go_split_ands; have hK : Keep W0 w' := Keep.trans (by (repeat' (first | with_reducible assumption | with_reducible exact Keep.refl _ | with_reducible refine Keep.drew ?_ | with_reducible refine Keep.alloc ?_ _ | with_reducible refine Keep.setCell ?_ (Nat.le_refl _) _ | with_reducible refine Keep.setCell ?_ (Keep.size (by assumption)) _ | with_reducible refine Keep.trans ?_ hk))) hk; (first | (have n0 := hk.newd 0 (v := .int .i64 0) rfl; have n1 := hk.newd 1 (v := .int .i64 0) rfl; have f0 := hk.freshd 0; have f1 := hk.freshd 1) | (have n0 := hk.new 0 (v := .int .i64 0) rfl; have n1 := hk.new 1 (v := .int .i64 0) rfl; have f0 := hk.fresh 0; have f1 := hk.fresh 1) | (have m0 := hk.cell n0; have m1 := hk.cell n1; have g0 := hk.still n0 f0; have g1 := hk.still n1 f1; clear n0 n1 f0 f1; have n0 := m0; have n1 := m1; have f0 := g0; have f1 := g1; clear m0 m1 g0 g1) | skip))
      | (go_at_call_of 30 (Value.agg #[Value.int .i64 c, Value.int .i64 d]); refine (toRg c d _).mono ?_; rintro e w' ⟨rfl, hk⟩; go_split_ands; have hK : Keep W0 w' := Keep.trans (by (repeat' (first | with_reducible assumption | with_reducible exact Keep.refl _ | with_reducible refine Keep.drew ?_ | with_reducible refine Keep.alloc ?_ _ | with_reducible refine Keep.setCell ?_ (Nat.le_refl _) _ | with_reducible refine Keep.setCell ?_ (Keep.size (by assumption)) _ | with_reducible refine Keep.trans ?_ hk))) hk; (first | (have n0 := hk.newd 0 (v := .int .i64 0) rfl; have n1 := hk.newd 1 (v := .int .i64 0) rfl; have f0 := hk.freshd 0; have f1 := hk.freshd 1) | (have n0 := hk.new 0 (v := .int .i64 0) rfl; have n1 := hk.new 1 (v := .int .i64 0) rfl; have f0 := hk.fresh 0; have f1 := hk.fresh 1) | (have m0 := hk.cell n0; have m1 := hk.cell n1; have g0 := hk.still n0 f0; have g1 := hk.still n1 f1; clear n0 n1 f0 f1; have n0 := m0; have n1 := m1; have f0 := g0; have f1 := g1; clear m0 m1 g0 g1) | skip))
      | (go_at_call 36; refine (jOk_spec a b c d _).mono ?_; rintro e w' ⟨rfl, hk⟩; go_split_ands; have hK : Keep W0 w' := Keep.trans (by (repeat' (first | with_reducible assumption | with_reducible exact Keep.refl _ | with_reducible refine Keep.drew ?_ | with_reducible refine Keep.alloc ?_ _ | with_reducible refine Keep.setCell ?_ (Nat.le_refl _) _ | with_reducible refine Keep.setCell ?_ (Keep.size (by assumption)) _ | with_reducible refine Keep.trans ?_ hk))) hk; (first | (have n0 := hk.newd 0 (v := .int .i64 0) rfl; have n1 := hk.newd 1 (v := .int .i64 0) rfl; have f0 := hk.freshd 0; have f1 := hk.freshd 1) | (have n0 := hk.new 0 (v := .int .i64 0) rfl; have n1 := hk.new 1 (v := .int .i64 0) rfl; have f0 := hk.fresh 0; have f1 := hk.fresh 1) | (have m0 := hk.cell n0; have m1 := hk.cell n1; have g0 := hk.still n0 f0; have g1 := hk.still n1 f1; clear n0 n1 f0 f1; have n0 := m0; have n1 := m1; have f0 := g0; have f1 := g1; clear m0 m1 g0 g1) | skip)))
    all_goals
      go_wp2_with fail
      go_meet
      exact ⟨_, rfl, rfl, by (repeat' (first | with_reducible assumption | with_reducible exact Keep.refl _ | with_reducible refine Keep.drew ?_ | with_reducible refine Keep.alloc ?_ _ | with_reducible refine Keep.setCell ?_ (Nat.le_refl _) _ | with_reducible refine Keep.setCell ?_ (Keep.size (by assumption)) _ | with_reducible refine Keep.trans ?_ hk)), by go_simp, by go_simp⟩
  case rest =>
    obtain ⟨g, rfl, rfl, k1, x0, x1⟩ := hcut
    have d0 := k1.cell c0
    have d1 := k1.cell c1
    have d2 := k1.cell c2
    have d3 := k1.cell c3
    have k01 := k0.trans k1
    clear c0 c1 c2 c3 k1 k0
    have c0 := d0
    have c1 := d1
    have c2 := d2
    have c3 := d3
    clear d0 d1 d2 d3 W0
    obtain ⟨W0, rfl⟩ : ∃ W0 : World, W0 = wc := ⟨_, rfl⟩
    go_upto_region 2 with fail
    go_cut [7, 8] (fun s7 s8 wx => ∃ h : Nat, s7 = .pointer (some ⟨h, 0, none⟩) ∧ s8 = .bool (jOk a b c d) ∧ Keep W0 wx ∧ wx.cell? ⟨h, 0, none⟩ = some (.int .i64 (jLo a b c d)) ∧ wx.cell? ⟨h, 1, none⟩ = some (.int .i64 (jHi a b c d)))
    case first =>
      go_region_held3 (fun w' => Keep W0 w' ∧ w'.cell? ⟨w.heap.size, 0, none⟩ = some (.int .i64 a) ∧ w'.cell? ⟨w.heap.size, 1, none⟩ = some (.int .i64 b) ∧ w'.cell? ⟨w.heap.size + 1, 0, none⟩ = some (.int .i64 c) ∧ w'.cell? ⟨w.heap.size + 1, 1, none⟩ = some (.int .i64 d)) ((go_split_ands; refine (fun hK => ⟨hK, hK.cell c0, hK.cell c1, hK.cell c2, hK.cell c3⟩ : Keep W0 _ → _) ?_; (repeat' (first | with_reducible assumption | with_reducible exact Keep.refl _ | with_reducible refine Keep.drew ?_ | with_reducible refine Keep.alloc ?_ _ | with_reducible refine Keep.setCell ?_ (Nat.le_refl _) _ | with_reducible refine Keep.setCell ?_ (Keep.size (by assumption)) _ | with_reducible refine Keep.trans ?_ hk))))
        (first
      | (go_at_call_of 30 (Value.agg #[Value.int .i64 a, Value.int .i64 b]); refine (toRg a b _).mono ?_; rintro e w' ⟨rfl, hk⟩; go_split_ands; have hK : Keep W0 w' := Keep.trans (by (repeat' (first | with_reducible assumption | with_reducible exact Keep.refl _ | with_reducible refine Keep.drew ?_ | with_reducible refine Keep.alloc ?_ _ | with_reducible refine Keep.setCell ?_ (Nat.le_refl _) _ | with_reducible refine Keep.setCell ?_ (Keep.size (by assumption)) _ | with_reducible refine Keep.trans ?_ hk))) hk; (first | (have n0 := hk.newd 0 (v := .int .i64 0) rfl; have n1 := hk.newd 1 (v := .int .i64 0) rfl; have f0 := hk.freshd 0; have f1 := hk.freshd 1) | (have n0 := hk.new 0 (v := .int .i64 0) rfl; have n1 := hk.new 1 (v := .int .i64 0) rfl; have f0 := hk.fresh 0; have f1 := hk.fresh 1) | (have m0 := hk.cell n0; have m1 := hk.cell n1; have g0 := hk.still n0 f0; have g1 := hk.still n1 f1; clear n0 n1 f0 f1; have n0 := m0; have n1 := m1; have f0 := g0; have f1 := g1; clear m0 m1 g0 g1) | skip))
      | (go_at_call_of 30 (Value.agg #[Value.int .i64 c, Value.int .i64 d]); refine (toRg c d _).mono ?_; rintro e w' ⟨rfl, hk⟩; go_split_ands; have hK : Keep W0 w' := Keep.trans (by (repeat' (first | with_reducible assumption | with_reducible exact Keep.refl _ | with_reducible refine Keep.drew ?_ | with_reducible refine Keep.alloc ?_ _ | with_reducible refine Keep.setCell ?_ (Nat.le_refl _) _ | with_reducible refine Keep.setCell ?_ (Keep.size (by assumption)) _ | with_reducible refine Keep.trans ?_ hk))) hk; (first | (have n0 := hk.newd 0 (v := .int .i64 0) rfl; have n1 := hk.newd 1 (v := .int .i64 0) rfl; have f0 := hk.freshd 0; have f1 := hk.freshd 1) | (have n0 := hk.new 0 (v := .int .i64 0) rfl; have n1 := hk.new 1 (v := .int .i64 0) rfl; have f0 := hk.fresh 0; have f1 := hk.fresh 1) | (have m0 := hk.cell n0; have m1 := hk.cell n1; have g0 := hk.still n0 f0; have g1 := hk.still n1 f1; clear n0 n1 f0 f1; have n0 := m0; have n1 := m1; have f0 := g0; have f1 := g1; clear m0 m1 g0 g1) | skip))
      | (go_at_call 37; refine (jOk_impl a b c d _).mono ?_; rintro e w' ⟨rfl, hk⟩; go_split_ands; have hK : Keep W0 w' := Keep.trans (by (repeat' (first | with_reducible assumption | with_reducible exact Keep.refl _ | with_reducible refine Keep.drew ?_ | with_reducible refine Keep.alloc ?_ _ | with_reducible refine Keep.setCell ?_ (Nat.le_refl _) _ | with_reducible refine Keep.setCell ?_ (Keep.size (by assumption)) _ | with_reducible refine Keep.trans ?_ hk))) hk; (first | (have n0 := hk.newd 0 (v := .int .i64 0) rfl; have n1 := hk.newd 1 (v := .int .i64 0) rfl; have f0 := hk.freshd 0; have f1 := hk.freshd 1) | (have n0 := hk.new 0 (v := .int .i64 0) rfl; have n1 := hk.new 1 (v := .int .i64 0) rfl; have f0 := hk.fresh 0; have f1 := hk.fresh 1) | (have m0 := hk.cell n0; have m1 := hk.cell n1; have g0 := hk.still n0 f0; have g1 := hk.still n1 f1; clear n0 n1 f0 f1; have n0 := m0; have n1 := m1; have f0 := g0; have f1 := g1; clear m0 m1 g0 g1) | skip)))
      all_goals
        go_wp2_with fail
        go_meet
        exact ⟨_, rfl, rfl, by (repeat' (first | with_reducible assumption | with_reducible exact Keep.refl _ | with_reducible refine Keep.drew ?_ | with_reducible refine Keep.alloc ?_ _ | with_reducible refine Keep.setCell ?_ (Nat.le_refl _) _ | with_reducible refine Keep.setCell ?_ (Keep.size (by assumption)) _ | with_reducible refine Keep.trans ?_ hk)), by go_simp, by go_simp⟩
    case rest =>
      obtain ⟨h, rfl, rfl, k2, y0, y1⟩ := hcut
      have z0 := k2.cell x0
      have z1 := k2.cell x1
      go_wp2_with fail
      refine (eqRg (jLo a b c d) (jHi a b c d) _).mono ?_
      rintro e w3 ⟨rfl, k3⟩
      go_wp2
      go_ret
      exact ⟨rfl, (k01.trans k2).trans k3⟩
end Go.Proofs.Ytalkfggkpjakiab
