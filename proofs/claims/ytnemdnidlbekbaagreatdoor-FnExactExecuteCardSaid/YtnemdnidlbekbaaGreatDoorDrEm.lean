/- How a script is drawn: a text many times. -/
import Derived.Test.YtnemdnidlbekbaaGreatDoorDrEz
import Derived.LoopTactic
namespace Go.Proofs.YtnemdnidlbekbaaGreatDoor
open Go.RowKit
set_option linter.unusedVariables false

set_option maxRecDepth 100000 in
set_option maxHeartbeats 2000000 in
theorem many_any (s : ByteArray) (n : Nat) (w : World) (hs : s.size ≤ 100) (hn : n ≤ 100) :
    Calls Tryz.prog 20 #[.string s, .int .i64 (n : Int)] w fun e w' => (∃ t : ByteArray, e = .returned (.string t) ∧ t.size ≤ 10000) ∧ w = w' := by
  have hS : s.size * n ≤ 10000 := Nat.mul_le_mul hs hn
  obtain ⟨S, hSS⟩ : ∃ S, s.size * n = S := ⟨_, rfl⟩
  have HSS := Lib.hid hSS
  rw [hSS] at hS
  clear hSS
  go_enter Tryz.func20, Tryz.ntmps20
  go_wp2_with fail
  go_loop [0, 1, 5] (fun a j o => ∃ (x y : ByteArray) (k : Nat), a = .string x ∧ j = .int .i64 k ∧ o = .string y ∧ k ≤ 100 ∧ Hid (y.size + x.size * k = S) ∧ x.size ≤ 20000) (fun _ j _ => (intOf j).toNat)
  case atStart => exact ⟨s, ⟨#[]⟩, n, rfl, rfl, rfl, hn, Lib.hid (by rw [← HSS.out]; exact Nat.zero_add _), by omega⟩
  case round =>
    clear HSS
    obtain ⟨x, y, k, rfl, rfl, rfl, hk, HS, hx⟩ := hrel
    by_cases hk0 : 0 < k
    · have hxS : x.size ≤ S := by
        have h1 : x.size * 1 ≤ x.size * k := Nat.mul_le_mul (Nat.le_refl _) hk0
        have := HS.out
        omega
      have p0 : (0 : Int) < (k : Int) := by omega
      have t1 : ¬ 9223372036854775807 < x.size + x.size := by omega
      obtain ⟨i, hi⟩ : ∃ i, k / 2 = i := ⟨_, rfl⟩
      have hd : (k : Int).tdiv 2 = (i : Int) := by rw [← hi]; exact Int.ofNat_tdiv k 2 |>.symm
      have hw : IntKind.i64.wrap ((k : Int).tdiv 2) = (i : Int) := by rw [hd]; exact IntWalk.i64_in _ (by omega)
      have hil : i < k := by omega
      have HI := Lib.hid hi
      by_cases hodd : k % 2 = 1
      · have hm : (k : Int).tmod 2 = 1 := by rw [show (2 : Int) = ((2 : Nat) : Int) from rfl, ← Int.ofNat_tmod, hodd]; rfl
        have HS2 : Hid ((y ++ x).size + (x ++ x).size * i = S) := Lib.hid (by
          have h9 := HS.out
          have h8 : k = 2 * i + 1 := by omega
          rw [h8, Nat.mul_add, Nat.mul_one] at h9
          rw [ByteArray.size_append, ByteArray.size_append, Nat.add_mul]
          have : x.size * (2 * i) = x.size * i + x.size * i := by rw [Nat.two_mul, Nat.mul_add]
          omega)
        have hy : y.size ≤ S := by have := HS.out; omega
        have t2 : ¬ 9223372036854775807 < y.size + x.size := by omega
        have hxx : (x ++ x).size ≤ 20000 := by rw [ByteArray.size_append]; omega
        clear hi hd hodd HS
        go_wp2
        go_round
        case rel => exact ⟨_, _, i, rfl, congrArg (Value.int .i64) (by have := HI.out; omega), rfl, by omega, HS2, hxx⟩
        case measure => simp [intOf]; omega
      · have hm : (k : Int).tmod 2 = 0 := by rw [show (2 : Int) = ((2 : Nat) : Int) from rfl, ← Int.ofNat_tmod, show k % 2 = 0 by omega]; rfl
        have HS2 : Hid (y.size + (x ++ x).size * i = S) := Lib.hid (by
          have h9 := HS.out
          have h8 : k = 2 * i := by omega
          rw [h8] at h9
          rw [ByteArray.size_append, Nat.add_mul]
          have : x.size * (2 * i) = x.size * i + x.size * i := by rw [Nat.two_mul, Nat.mul_add]
          omega)
        have hxx : (x ++ x).size ≤ 20000 := by rw [ByteArray.size_append]; omega
        clear hi hd hodd HS
        go_wp2
        go_round
        case rel => exact ⟨_, _, i, rfl, congrArg (Value.int .i64) (by have := HI.out; omega), rfl, by omega, HS2, hxx⟩
        case measure => simp [intOf]; omega
    · obtain rfl : k = 0 := by omega
      have hy : y.size ≤ 10000 := by have := HS.out; omega
      go_wp2
      go_ret
      exact ⟨⟨_, rfl, hy⟩, rfl⟩
end Go.Proofs.YtnemdnidlbekbaaGreatDoor
