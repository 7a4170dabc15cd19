/- P63: a good text ends with its sum. -/
import Derived.Test.YtcfffgbnkjclfaaDoorDrBt
import Derived.Test.YtcfffgbnkjclfaaDoorTe
import Derived.Test.YtcfffgbnkjclfaaDoorFr
import Derived.LoopTactic
import Derived.IntWalk
namespace Go.Proofs.YtcfffgbnkjclfaaDoor
open Go.RowKit
set_option linter.unusedVariables false

set_option maxRecDepth 100000 in
set_option maxHeartbeats 6400000 in
theorem walk_FnBulletinGood (a0 : Option Addr) (len0 cap0 : Nat) (z0 : List Int) (w : World) (w0 : IsRow .u8 w a0 len0 cap0 z0) (T : TabsE w) :
    Calls Tryd.prog 7 #[.slice a0 len0 cap0] w fun e w' => e = .returned (.bool true) ∧ Below w.heap.size w w' := by
  have ha := code_of_row w0
  obtain ⟨hl0, hm0⟩ := ha.1
  unfold maxLen at hm0
  clear w0
  by_cases h : len0 ≤ 1048576
  case' neg =>
    have hd : decide (1048576 < (len0 : Int)) = true := by simp; omega
    go_enter Tryd.func7, Tryd.ntmps7
    go_wp2
    go_ret
    exact ⟨rfl, Below.refl _ _⟩
  have hd : decide (1048576 < (len0 : Int)) = false := by simp; omega
  go_enter Tryd.func7, Tryd.ntmps7
  have HT := Lib.hid T
  clear T
  go_wp2_with fail
  refine (drawBulletinSum a0 len0 cap0 _ ha).mono ?_
  rintro e w1 ⟨x, rfl, hx, k1⟩
  clear ha
  have HB1 := Lib.hid (fun W => bs_impl x W (by omega))
  have HB2 := Lib.hid (fun W => bs_spec x W (by omega))
  have HG := Lib.hid (bg_good x w1 (HT.out.keep k1) (by omega))
  have hlt := bsL_lt x.data.toList
  generalize bsL x.data.toList = n at *
  have HA := Lib.hid (gd_app x n)
  have HWD := Lib.hid (wd_eq hlt)
  have HWL := dtx_size (n := (n : Int)) (by omega) (by omega)
  obtain ⟨d, hd0⟩ : ∃ d, n % 10 = d := ⟨_, rfl⟩
  obtain ⟨q, hq0⟩ : ∃ q, n / 10 = q := ⟨_, rfl⟩
  unfold wd dg10 at HWD
  rw [hd0, hq0] at HWD
  have ht : Int.tmod (n : Int) 10 = (d : Int) := by
    rw [Int.tmod_eq_emod_of_nonneg (by omega)]; omega
  have hdv : Int.tdiv (n : Int) 10 = (q : Int) := by
    rw [Int.tdiv_eq_ediv_of_nonneg (by omega)]; omega
  have d9 : d ≤ 9 := by omega
  have q9 : q ≤ 9 := by omega
  have n10 : 10 ≤ n ∨ ¬ 10 ≤ n := by omega
  clear hd0 hq0
  have dw1 : IntKind.i64.wrap (d : Int) = (d : Int) := IntWalk.i64_in _ (by omega)
  have dw2 : IntKind.i64.wrap ((d : Int) + 1) = (d : Int) + 1 := IntWalk.i64_in _ (by omega)
  have qw1 : IntKind.i64.wrap (q : Int) = (q : Int) := IntWalk.i64_in _ (by omega)
  have qw2 : IntKind.i64.wrap ((q : Int) + 1) = (q : Int) + 1 := IntWalk.i64_in _ (by omega)
  have d0 : (0 : Int) ≤ (d : Int) := by omega
  have d1 : (d : Int) ≤ (d : Int) + 1 := by omega
  have d2 : (d : Int) + 1 ≤ 10 := by omega
  have d3 : (0 : Int) ≤ (d : Int) + 1 := by omega
  have d4 : d + 1 ≤ 10 := by omega
  have q0 : (0 : Int) ≤ (q : Int) := by omega
  have q1 : (q : Int) ≤ (q : Int) + 1 := by omega
  have q2 : (q : Int) + 1 ≤ 10 := by omega
  have q3 : (0 : Int) ≤ (q : Int) + 1 := by omega
  have q4 : q + 1 ≤ 10 := by omega
  have n1 : ((n : Int) != (n : Int)) = false := by simp
  go_wp2_with fail
  refine (HB1.out _).mono ?_
  rintro e w2 ⟨rfl, rfl⟩
  go_wp2_with fail
  refine (HB2.out _).mono ?_
  rintro e w2 ⟨rfl, rfl⟩
  rcases n10 with h10 | h10
  · have n2 : decide ((10 : Int) ≤ (n : Int)) = true := decide_eq_true (by omega)
    have n3 : (10 : Int) ≤ (n : Int) := by omega
    rw [if_pos h10] at HWD
    go_wp2_with fail
    rw [HWD.out, HA.out]
    refine HG.out.mono ?_
    rintro e w4 ⟨rfl, k4⟩
    go_wp2
    go_ret
    exact ⟨rfl, k1.trans k4⟩
  · have n2 : decide ((10 : Int) ≤ (n : Int)) = false := decide_eq_false (by omega)
    have n3 : ¬ (10 : Int) ≤ (n : Int) := by omega
    rw [if_neg h10] at HWD
    go_wp2_with fail
    rw [HWD.out, HA.out]
    refine HG.out.mono ?_
    rintro e w4 ⟨rfl, k4⟩
    go_wp2
    go_ret
    exact ⟨rfl, k1.trans k4⟩
end Go.Proofs.YtcfffgbnkjclfaaDoor
