/- The check number of a text: the program and the model answer 'bsL'. -/
import Derived.Test.YtpdpcnblpcalaaaDoorRv
import Derived.Lib.Hide
import Derived.LoopTactic
import Derived.IntWalk
namespace Go.Proofs.YtpdpcnblpcalaaaDoor
open Go.RowKit
set_option linter.unusedVariables false

def bsL (l : List UInt8) : Nat := l.foldl (fun n b => (31 * n + b.toNat) % 97) 0
theorem bsL_snoc (l : List UInt8) (b : UInt8) : bsL (l ++ [b]) = (31 * bsL l + b.toNat) % 97 := by simp [bsL, List.foldl_append]
theorem bsL_lt (l : List UInt8) : bsL l < 97 := by
  rcases List.eq_nil_or_concat l with rfl | ⟨l', b, rfl⟩
  · simp [bsL]
  · rw [List.concat_eq_append, bsL_snoc]; omega
theorem bs_next {s : ByteArray} {k : Nat} (h : k < s.size) : bsL (s.data.toList.take (k + 1)) = (31 * bsL (s.data.toList.take k) + s[k].toNat) % 97 := by
  have e : s.data.toList.take (k + 1) = s.data.toList.take k ++ [s[k]] := by
    rw [List.take_succ_eq_append_getElem (by simpa using h)]
    rfl
  rw [e, bsL_snoc]
set_option maxHeartbeats 1000000 in
theorem bs_impl (s : ByteArray) (w : World) (hs : s.size ≤ 4611686018427387904) :
    Calls Tryd.prog 56 #[.string s] w fun e w' => e = .returned (.int .i64 (bsL s.data.toList : Int)) ∧ w = w' := by
  go_enter Tryd.func56, Tryd.ntmps56
  go_wp2_with fail
  go_loop [3, 7] (fun u i => ∃ (k n : Nat), k ≤ s.size ∧ n < 97 ∧ i = .int .i64 k ∧ u = .int .i64 n ∧ Hid (n = bsL (s.data.toList.take k))) (fun _ i => s.size - (intOf i).toNat)
  case atStart => exact ⟨0, 0, by omega, by omega, rfl, rfl, Lib.hid (by simp [bsL])⟩
  case round =>
    obtain ⟨k, n, hk, hn, rfl, rfl, HN⟩ := hrel
    by_cases hlt : k < s.size
    · have HX := Lib.hid (bs_next hlt)
      rw [← HN.out] at HX
      have hb := s[k].toNat_lt
      obtain ⟨m, hm⟩ : ∃ m, (31 * n + s[k].toNat) % 97 = m := ⟨_, rfl⟩
      have HM := Lib.hid hm
      have hm97 : m < 97 := by omega
      have hti : Int.tmod (31 * (n : Int) + (s[k].toNat : Int)) 97 = (m : Int) := by
        rw [← hm]
        have h9 := Int.ofNat_tmod (31 * n + s[k].toNat) 97
        push_cast at h9
        omega
      clear hm
      go_wp2
      go_round
      case rel => exact ⟨k + 1, m, by omega, hm97, by go_num, by first | rfl | (congr 1), Lib.hid (by rw [HX.out, HM.out])⟩
      case measure => simp [intOf]; omega
    · obtain rfl : k = s.size := by omega
      have HF : Hid ((n : Int) = (bsL s.data.toList : Int)) := Lib.hid (by
        have := HN.out
        rw [List.take_of_length_le (by simp)] at this
        omega)
      go_wp2
      go_ret
      exact ⟨retI HF.out, rfl⟩
set_option maxHeartbeats 1000000 in
theorem bs_spec (s : ByteArray) (w : World) (hs : s.size ≤ 4611686018427387904) :
    Calls Tryd.prog 26 #[.string s] w fun e w' => e = .returned (.int .i64 (bsL s.data.toList : Int)) ∧ w = w' := by
  go_enter Tryd.func26, Tryd.ntmps26
  go_wp2_with fail
  go_loop [3, 4] (fun u i => ∃ (k n : Nat), k ≤ s.size ∧ n < 97 ∧ i = .int .i64 k ∧ u = .int .i64 n ∧ Hid (n = bsL (s.data.toList.take k))) (fun _ i => s.size - (intOf i).toNat)
  case atStart => exact ⟨0, 0, by omega, by omega, rfl, rfl, Lib.hid (by simp [bsL])⟩
  case round =>
    obtain ⟨k, n, hk, hn, rfl, rfl, HN⟩ := hrel
    by_cases hlt : k < s.size
    · have HX := Lib.hid (bs_next hlt)
      rw [← HN.out] at HX
      have hb := s[k].toNat_lt
      obtain ⟨m, hm⟩ : ∃ m, (31 * n + s[k].toNat) % 97 = m := ⟨_, rfl⟩
      have HM := Lib.hid hm
      have hm97 : m < 97 := by omega
      have hti : Int.tmod (31 * (n : Int) + (s[k].toNat : Int)) 97 = (m : Int) := by
        rw [← hm]
        have h9 := Int.ofNat_tmod (31 * n + s[k].toNat) 97
        push_cast at h9
        omega
      clear hm
      go_wp2
      go_round
      case rel => exact ⟨k + 1, m, by omega, hm97, by go_num, by first | rfl | (congr 1), Lib.hid (by rw [HX.out, HM.out])⟩
      case measure => simp [intOf]; omega
    · obtain rfl : k = s.size := by omega
      have HF : Hid ((n : Int) = (bsL s.data.toList : Int)) := Lib.hid (by
        have := HN.out
        rw [List.take_of_length_le (by simp)] at this
        omega)
      go_wp2
      go_ret
      exact ⟨retI HF.out, rfl⟩
end Go.Proofs.YtpdpcnblpcalaaaDoor
