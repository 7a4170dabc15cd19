/- P62: a sum continues. -/
import Derived.Test.YtcfffgbnkjclfaaDrBt
import Derived.Test.YtcfffgbnkjclfaaFr
import Derived.LoopTactic
import Derived.IntWalk
namespace Go.Proofs.Ytcfffgbnkjclfaa
open Go.RowKit Go.Lib
set_option linter.unusedVariables false

set_option maxRecDepth 100000 in
set_option maxHeartbeats 6400000 in
theorem walk_FnBulletinSum (a0 : Option Addr) (len0 cap0 : Nat) (z0 : List Int) (w : World) (w0 : IsRow .u8 w a0 len0 cap0 z0) :
    Calls Try.prog 3 #[.slice a0 len0 cap0] w fun e w' => e = .returned (.bool true) ∧ Below w.heap.size w w' := by
  have ha := code_of_row w0
  obtain ⟨hl0, hm0⟩ := ha.1
  unfold maxLen at hm0
  clear w0
  by_cases h : len0 ≤ 1048576
  case' neg =>
    have hd : decide (1048576 < (len0 : Int)) = true := by simp; omega
    go_enter Try.func3, Try.ntmps3
    go_wp2
    go_ret
    exact ⟨rfl, Below.refl _ _⟩
  have hd : decide (1048576 < (len0 : Int)) = false := by simp; omega
  go_enter Try.func3, Try.ntmps3
  go_wp2_with fail
  refine (drawBulletinSum a0 len0 cap0 _ ha).mono ?_
  rintro e w1 ⟨x, rfl, hx, k1⟩
  clear ha
  have HB1 := Lib.hid (fun W => bs_impl x W (by omega))
  have HB2 := Lib.hid (fun W => bs_spec x W (by omega))
  have hx2 : (x ++ ⟨#[120]⟩ : ByteArray).size = x.size + 1 := by rw [ByteArray.size_append]; rfl
  have HB3 := Lib.hid (fun W => bs_impl (x ++ ⟨#[120]⟩) W (by omega))
  have e3 : (x ++ ⟨#[120]⟩ : ByteArray).data.toList = x.data.toList ++ [120] := by simp
  rw [e3, bsL_snoc] at HB3
  have hlt := bsL_lt x.data.toList
  generalize bsL x.data.toList = n at *
  clear e3
  obtain ⟨m, hm⟩ : ∃ m, (31 * n + (120 : UInt8).toNat) % 97 = m := ⟨_, rfl⟩
  rw [hm] at HB3
  have h120 : (120 : UInt8).toNat = 120 := rfl
  rw [h120] at hm
  have hti : Int.tmod (31 * (n : Int) + 120) 97 = (m : Int) := by
    rw [Int.tmod_eq_emod_of_nonneg (by omega)]
    omega
  have hw1 : IntKind.i64.wrap (31 * (n : Int)) = 31 * (n : Int) := IntWalk.i64_in _ (by omega)
  have hw2 : IntKind.i64.wrap (31 * (n : Int) + 120) = 31 * (n : Int) + 120 := IntWalk.i64_in _ (by omega)
  have hm0 : m < 97 := by omega
  have hw3 : IntKind.i64.wrap (m : Int) = (m : Int) := IntWalk.i64_in _ (by omega)
  have n1 : ((n : Int) != (n : Int)) = false := by simp
  have n2 : decide ((0 : Int) ≤ (n : Int)) = true := decide_eq_true (by omega)
  have n3 : decide ((n : Int) < 97) = true := decide_eq_true (by omega)
  have n4 : ((m : Int) == (m : Int)) = true := by simp
  clear hm
  go_wp2_with fail
  refine (HB1.out _).mono ?_
  rintro e w2 ⟨rfl, rfl⟩
  go_wp2_with fail
  refine (HB2.out _).mono ?_
  rintro e w2 ⟨rfl, rfl⟩
  go_wp2_with fail
  refine (HB3.out _).mono ?_
  rintro e w2 ⟨rfl, rfl⟩
  go_wp2
  go_ret
  exact ⟨rfl, k1⟩
end Go.Proofs.Ytcfffgbnkjclfaa
