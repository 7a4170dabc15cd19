/- The model's numbers in decimals. -/
import Derived.Test.YtnemdnidlbekbaaGreatDoorKeep
import Derived.IntWalk
import Derived.Lib.Hide
import Derived.WalkSpells
import Derived.Outline
import Derived.Deep.RegionHeld3
import Derived.Deep.DeepCutAuto
import Derived.StillTailTactics
import Derived.Laws.BytesArg
import Derived.Laws.BytesString
namespace Go.Proofs.YtnemdnidlbekbaaGreatDoor
open Go.RowKit
set_option linter.unusedVariables false

/-- The letter of a digit. -/
def digC (n : Nat) : UInt8 := UInt8.ofNat (48 + n)
/-- The digits of a number, with so many digits at most. -/
def decL : Nat → Nat → List UInt8
  | 0, n => [digC n]
  | m + 1, n => if n < 10 then [digC n] else decL m (n / 10) ++ [digC (n % 10)]

theorem conv_one (w : World) (b : Nat) (x : Int) (h : w.cell? ⟨b, 0, none⟩ = some (.int .u8 x)) :
    (Go.convert 22 9 (.slice (some ⟨b, 0, none⟩) 1 1)).run Tryz.prog w = .ok (.string ⟨#[UInt8.ofNat x.toNat]⟩) w := by
  have := run_convert_bytes_arg (P := Tryz.prog) w 22 5 Tryz.underlying22 Tryz.underlying5 b 0 1 1 [x] rfl (fun i hi => by
    obtain rfl : i = 0 := by omega
    simpa using h) 9 Tryz.underlying9
  rw [this]
  rfl

theorem conv_dig (w : World) (b n : Nat) (h : w.cell? ⟨b, 0, none⟩ = some (.int .u8 (48 + (n : Int)))) :
    (Go.convert 22 9 (.slice (some ⟨b, 0, none⟩) 1 1)).run Tryz.prog w = .ok (.string ⟨#[digC n]⟩) w := by
  rw [conv_one w b _ h]
  have : (48 + (n : Int)).toNat = 48 + n := by omega
  rw [this]; rfl
theorem conv_mod (w : World) (b n : Nat) (h : w.cell? ⟨b, 0, none⟩ = some (.int .u8 (48 + (n : Int) % 10))) :
    (Go.convert 22 9 (.slice (some ⟨b, 0, none⟩) 1 1)).run Tryz.prog w = .ok (.string ⟨#[digC (n % 10)]⟩) w := by
  refine conv_dig w b (n % 10) ?_
  rw [h]; congr 2

set_option maxRecDepth 100000 in
theorem dec_one (n : Nat) (w : World) (h : n < 10) :
    Calls Tryz.prog 28 #[.int .i64 n] w fun e w' => e = .returned (.string ⟨#[digC n]⟩) ∧ Keep w w' := by
  have h1 : decide ((n : Int) < 10) = true := by simp; omega
  have h0 : (n : Int) ≤ 9 := by omega
  have hc : IntKind.u8.wrap (48 + (n : Int)) = 48 + (n : Int) := IntWalk.u8_in _ (by omega)
  have kc := conv_dig (w.alloc (.cells #[.int .u8 (48 + (n : Int))] 5)) w.heap.size n (by go_simp)
  go_enter Tryz.func28, Tryz.ntmps28
  go_wp2
  go_ret
  exact ⟨rfl, (Keep.refl _).alloc _⟩

set_option maxRecDepth 100000 in
set_option maxHeartbeats 1000000 in
theorem dec_more (n : Nat) (u : ByteArray) (w : World) (h : 10 ≤ n) (h9 : n ≤ 99999) (hu : u.size ≤ 20)
    (ih : ∀ w, Calls Tryz.prog 28 #[.int .i64 ((n : Int) / 10)] w fun e w' => e = .returned (.string u) ∧ Keep w w') :
    Calls Tryz.prog 28 #[.int .i64 n] w fun e w' => e = .returned (.string (u ++ ⟨#[digC (n % 10)]⟩)) ∧ Keep w w' := by
  have h1 : decide ((n : Int) < 10) = false := by simp; omega
  have hn0 : (0 : Int) ≤ n := by omega
  have hn9 : (n : Int) ≤ 99999 := by omega
  have hr0 : 0 ≤ (n : Int) % 10 := by omega
  have hr9 : (n : Int) % 10 < 10 := by omega
  have hc : IntKind.u8.wrap (48 + (n : Int) % 10) = 48 + (n : Int) % 10 := IntWalk.u8_in _ (by omega)
  have hc2 : IntKind.i64.wrap (48 + (n : Int) % 10) = 48 + (n : Int) % 10 := IntWalk.i64_in _ (by omega)
  have hq1 : (n : Int).tdiv 10 = (n : Int) / 10 := Int.tdiv_eq_ediv_of_nonneg hn0
  have hq2 : (n : Int).tmod 10 = (n : Int) % 10 := Int.tmod_eq_emod_of_nonneg hn0
  have hq3 : IntKind.i64.wrap ((n : Int) / 10) = (n : Int) / 10 := IntWalk.i64_in _ (by omega)
  have kc := fun w b h => conv_mod w b n h
  have IH := Lib.hid ih
  clear ih
  go_enter Tryz.func28, Tryz.ntmps28
  go_wp2_with fail
  go_region_with (first | (go_at_call 28; (with_reducible refine (IH.out _).mono ?_); rintro e w' ⟨rfl, hk⟩; (first | (have n0 := hk.newd 0 (v := .int .u8 (48 + (n : Int) % 10)) rfl) | (have n0 := hk.new 0 (v := .int .u8 (48 + (n : Int) % 10)) rfl) | skip)))
  all_goals
    go_wp2
    go_ret
    exact ⟨rfl, by (repeat' (first | with_reducible assumption | with_reducible exact Keep.refl _ | with_reducible refine Keep.drew ?_ | with_reducible refine Keep.drewN ?_ _ | with_reducible refine Keep.alloc ?_ _ | with_reducible refine Keep.trans ?_ hk))⟩

/-- 'l6Dec' of a number with so many digits. -/
theorem dec_lev : ∀ (m n : Nat), m ≤ 4 → n < 10 ^ (m + 1) → ∃ u : ByteArray, u.data.toList = decL m n ∧ 1 ≤ u.size ∧ u.size ≤ m + 1 ∧
    ∀ w, Calls Tryz.prog 28 #[.int .i64 n] w fun e w' => e = .returned (.string u) ∧ Keep w w'
  | 0, n, _, h => ⟨⟨#[digC n]⟩, rfl, by show 1 ≤ 1; omega, by show 1 ≤ 1; omega, fun w => dec_one n w (by simpa using h)⟩
  | m + 1, n, hm, h => by
    by_cases h10 : n < 10
    · exact ⟨⟨#[digC n]⟩, by simp [decL, h10], by show 1 ≤ 1; omega, by show 1 ≤ m + 1 + 1; omega, fun w => dec_one n w h10⟩
    · have hp : 10 ^ (m + 1 + 1) = 10 ^ (m + 1) * 10 := Nat.pow_succ ..
      obtain ⟨u, h1, h2, h3, h4⟩ := dec_lev m (n / 10) (by omega) (by omega)
      have h9 : n ≤ 99999 := by
        have : 10 ^ (m + 1 + 1) ≤ 10 ^ 5 := Nat.pow_le_pow_right (by omega) (by omega)
        omega
      refine ⟨u ++ ⟨#[digC (n % 10)]⟩, ?_, ?_, ?_, fun w => dec_more n u w (by omega) h9 (by omega) (fun w => ?_)⟩
      · simp [decL, h10, h1]
      · rw [ByteArray.size_append]; omega
      · rw [ByteArray.size_append]; show u.size + 1 ≤ _; omega
      · have e : ((n / 10 : Nat) : Int) = (n : Int) / 10 := by omega
        rw [← e]; exact h4 w
end Go.Proofs.YtnemdnidlbekbaaGreatDoor
