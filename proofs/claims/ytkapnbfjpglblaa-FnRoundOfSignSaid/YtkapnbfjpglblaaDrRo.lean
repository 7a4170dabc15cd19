/- How quotients are drawn. -/
import Derived.Test.YtkapnbfjpglblaaDrHr
import Derived.Test.YtkapnbfjpglblaaRd
import Derived.Test.YtkapnbfjpglblaaKeep
import Derived.IntWalk
import Derived.Lib.Hide
import Derived.Outline
import Derived.Deep.RegionWith
namespace Go.Proofs.Ytkapnbfjpglblaa
open Go.RowKit
set_option linter.unusedVariables false

theorem lt_out {a B : Nat} {w9 W w10 : World} (h : a < w9.heap.size) (ho : Only B W w10) (hs : w9.heap.size ≤ W.heap.size) : a < w10.heap.size := Nat.lt_of_lt_of_le h (Nat.le_trans hs ho.size)
set_option maxHeartbeats 2000000 in
theorem drawRoundOf (a0 : Option Addr) (len cap : Nat) (w : World) (ha : CodeArg w a0 len cap) :
    Calls Try.prog 20 #[.slice a0 len cap] w fun e w' => ∃ n d : Int, e = .returned (.tuple #[.int .i64 n, .int .i64 d]) ∧ HSm n ∧ HSm d ∧ Keep w w' := by
  go_enter Try.func20, Try.ntmps20
  go_wp2_with fail
  refine (open_any a0 len cap _ ha).mono ?_
  rintro e w1 ⟨rfl, hr1, hb, hs⟩
  have hb : Keep w w1 := hb
  go_wp2_with fail
  refine (pick_any _ 0 256 _ (by omega) (by omega) hr1).mono ?_
  rintro e w2 ⟨x, rfl, x0, x1, hr2, ho2, hs2⟩
  go_wp2_with fail
  refine (pick_any _ 1 8 _ (by omega) (by omega) hr2).mono ?_
  rintro e w3 ⟨y, rfl, y0, y1, hr3, ho3, hs3⟩
  go_wp2_with fail
  refine (pick_any _ 2 12 _ (by omega) (by omega) hr3).mono ?_
  rintro e w4 ⟨z, rfl, z0, z1, hr4, ho4, hs4⟩
  rcases (show z = 0 ∨ (z == 0) = false by by_cases h : z = 0 <;> simp [h]) with rfl | hz
  · clear z0 z1
    have hB4 := hr4.lt
    have h4B : w4.heap.size ≠ w.heap.size := by omega
    have h5B : w4.heap.size + 1 ≠ w.heap.size := by omega
    have k4 : Keep w w4 := Only.keep ((((Only.refl _ w1).trans ho2).trans ho3).trans ho4) hb (Nat.le_refl _)
    go_wp2_with fail
    go_region_with (first
      | (go_at_call 35; (with_reducible refine (pick_any _ 3 4 _ (by omega) (by omega) (by repeat' (first | with_reducible assumption | with_reducible refine Rd.drew ?_ | with_reducible refine Rd.alloc ?_ _))).mono ?_); rintro e w9 ⟨i, rfl, i0, i1, hr9, ho9, hs9⟩; have hr9' : Rd w9 w.heap.size 4 := hr9; clear hr9; obtain ⟨j, j0, j1, cj, cj2⟩ := listSm [-999999, 999999, 1000000, 0] i i0 i1 (by simp); simp only [List.map_cons, List.map_nil] at cj cj2; (first | (obtain ⟨⟨q1, q2⟩, l1, l2⟩ := oc2 ho9 hB4) | (obtain ⟨q1, l1⟩ := oc1 ho9 hB4) | skip))
      | (go_at_call 35; (with_reducible refine (pick_any _ 4 5 _ (by omega) (by omega) (by repeat' (first | with_reducible assumption | with_reducible refine Rd.drew ?_ | with_reducible refine Rd.alloc ?_ _))).mono ?_); rintro e w10 ⟨t, rfl, t0, t1, hr10, ho10, hs10⟩; obtain ⟨u, u0, u1, cu, cu2⟩ := listSm [0, 1, 999, 1000, -1] t t0 t1 (by simp); simp only [List.map_cons, List.map_nil] at cu cu2; (first | (have q3 := fun o => ho10.cell w4.heap.size o (Nat.lt_of_lt_of_le l1 (by simp)) h4B) | skip); (first | (have q4 := fun o => ho10.cell (w4.heap.size + 1) o (Nat.lt_of_lt_of_le l2 (by simp)) h5B) | skip); (first | (have l7 := lt_out l1 ho10 (by simp)) | skip); (first | (have l8 := lt_out l2 ho10 (by simp)) | skip); (first | (obtain ⟨⟨q5, q6⟩, l5, l6⟩ := od2 ho10 hr9'.lt) | (obtain ⟨q5, l5⟩ := od1 ho10 hr9'.lt) | skip)))
    all_goals
      go_wp2
      go_ret2
      refine ⟨_, _, rfl, ?_, ?_, ?_⟩
      all_goals first | exact ⟨by omega, by omega⟩ | (show Keep w _; repeat' (first | with_reducible assumption | with_reducible refine Keep.drew ?_ | with_reducible refine Keep.alloc ?_ _ | with_reducible refine Only.keep ho10 ?_ (Nat.le_refl _) | with_reducible refine Only.keep ho9 ?_ (Nat.le_refl _)))
  · skip
    go_wp2_with fail
    refine (pick_any _ 3 12 _ (by omega) (by omega) hr4).mono ?_
    rintro e w5 ⟨t, rfl, t0, t1, hr5, ho5, hs5⟩
    have hk : Keep w w5 := Only.keep (((((Only.refl _ w1).trans ho2).trans ho3).trans ho4).trans ho5) hb (Nat.le_refl _)
    go_wp2
    go_ret2
    exact ⟨_, _, rfl, ⟨by omega, by omega⟩, ⟨by omega, by omega⟩, hk⟩
end Go.Proofs.Ytkapnbfjpglblaa
