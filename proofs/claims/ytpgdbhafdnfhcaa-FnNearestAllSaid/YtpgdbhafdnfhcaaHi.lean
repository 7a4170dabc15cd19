/- Whether a list has a number. -/
import Derived.Test.YtpgdbhafdnfhcaaLs
import Derived.Test.YtpgdbhafdnfhcaaRv
import Derived.LoopTactic
import Derived.IntWalk
namespace Go.Proofs.Ytpgdbhafdnfhcaa
open Go.RowKit
set_option linter.unusedVariables false

theorem hasI_any (a : Option Addr) (c : Nat) (zs : List Int) (n : Int) (w : World) (h : Ls w a zs) (hm : zs.length ≤ 1048576) :
    Calls Try.prog 43 #[.slice a zs.length c, .int .i64 n] w fun e w' => e = .returned (.bool (decide (n ∈ zs))) ∧ w = w' := by
  go_enter Try.func43, Try.ntmps43
  go_wp2_with fail
  go_loop [5] (fun i => ∃ k : Nat, k ≤ zs.length ∧ i = .int .i64 k ∧ Hid (n ∉ zs.take k)) (fun i => zs.length - (intOf i).toNat)
  case atStart => exact ⟨0, by omega, rfl, Lib.hid (by simp)⟩
  case round =>
    obtain ⟨k, hk, rfl, HN⟩ := hrel
    by_cases hlt : k < zs.length
    · obtain ⟨b, off, rfl, hb, c0⟩ := h.at_ hlt
      have ht : zs.take (k + 1) = zs.take k ++ [zs.getD k 0] := by
        rw [List.take_add_one]; simp [List.getD_eq_getElem?_getD, hlt]
      have hin : zs.getD k 0 ∈ zs := by simp [List.getD_eq_getElem?_getD, hlt]
      by_cases hx : zs.getD k 0 = n
      · have HM : Hid (true = decide (n ∈ zs)) := Lib.hid (by rw [← hx]; exact (decide_eq_true hin).symm)
        generalize zs.getD k 0 = x at c0 hx
        subst hx
        clear ht hin
        go_wp2
        go_ret
        exact ⟨retB HM.out, rfl⟩
      · have HN2 : Hid (n ∉ zs.take (k + 1)) := Lib.hid (by
          rw [ht, List.mem_append]
          rintro (h1 | h1)
          · exact HN.out h1
          · exact hx (List.mem_singleton.1 h1).symm)
        generalize zs.getD k 0 = x at c0 hx
        have hx1 : (x == n) = false := by simpa using hx
        clear ht hin
        go_wp2
        go_round
        case rel => exact ⟨k + 1, by omega, by go_num, HN2⟩
        case measure => simp [intOf]; omega
    · have HM : Hid (false = decide (n ∈ zs)) := Lib.hid (by
        have h1 := HN.out
        rw [List.take_of_length_le (by omega)] at h1
        exact (decide_eq_false h1).symm)
      obtain rfl : k = zs.length := by omega
      go_wp2
      go_ret
      exact ⟨retB HM.out, rfl⟩

end Go.Proofs.Ytpgdbhafdnfhcaa
