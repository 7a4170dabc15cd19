/- The texts of reports: the program's ReportText and the model's. -/
import Derived.Test.YtnemdnidlbekbaaGreatDoorTxt
import Derived.Test.YtnemdnidlbekbaaGreatDoorDec
import Derived.Test.YtnemdnidlbekbaaGreatDoorKeep
import Derived.Test.YtnemdnidlbekbaaGreatDoorRv
import Derived.Deep.RegionHeld3
import Derived.Deep.RegionHeld2
import Derived.Deep.DeepCutAuto
import Derived.Outline
namespace Go.Proofs.YtnemdnidlbekbaaGreatDoor
open Go.RowKit Go.Lib
set_option linter.unusedVariables false

theorem decL_eq : ∀ (m n : Nat), n < 10 ^ (m + 1) → decL m n = decDigits n
  | 0, n, h => by rw [dec_small (by simpa using h)]; rfl
  | m + 1, n, h => by
    by_cases h10 : n < 10
    · rw [dec_small h10]; simp only [decL, if_pos h10]; rfl
    · have hp : 10 ^ (m + 1 + 1) = 10 ^ (m + 1) * 10 := Nat.pow_succ ..
      rw [dec_big h10, ← decL_eq m (n / 10) (by omega)]
      simp only [decL, if_neg h10]; rfl
theorem bytes_eq {u : ByteArray} {l : List UInt8} (h : u.data.toList = l) : u = ⟨l.toArray⟩ := by
  cases u with
  | mk a => simp at h; subst h; simp

theorem retS {a b : ByteArray} (h : a = b) : Ending.returned (.string a) = .returned (.string b) := by rw [h]
/-- A number's text. -/
def dtx (n : Int) : ByteArray := ⟨(itoa n).toArray⟩
theorem dtx_list (n : Int) : (dtx n).data.toList = itoa n := by simp [dtx]
theorem dtx_size {n : Int} (h1 : -99999 ≤ n) (h2 : n ≤ 99999) : (dtx n).size ≤ 6 := by
  have := itoa_len h1 h2
  simpa [dtx, ByteArray.size] using this
/-- 'l6Dec' answers the decimals. -/
theorem dec_any (n : Int) (w : World) (h0 : 0 ≤ n) (h1 : n ≤ 99999) :
    Calls Tryz.prog 28 #[.int .i64 n] w fun e w' => e = .returned (.string (dtx n)) ∧ Keep w w' := by
  obtain ⟨u, rfl⟩ := Int.eq_ofNat_of_zero_le h0
  obtain ⟨b, hb, _, _, hc⟩ := dec_lev 4 u (by omega) (by omega)
  rw [dtx, itoa_nonneg, ← decL_eq 4 u (by omega), ← bytes_eq hb]
  exact hc w
set_option maxHeartbeats 400000 in
theorem int_any (n : Int) (w : World) (h0 : -99999 ≤ n) (h1 : n ≤ 99999) :
    Calls Tryz.prog 43 #[.int .i64 n] w fun e w' => e = .returned (.string (dtx n)) ∧ Keep w w' := by
  by_cases hn : n < 0
  · have a : 0 ≤ -n := by omega
    have b : -n ≤ 99999 := by omega
    have E : Hid (itoa n = 45 :: itoa (-n)) := Lib.hid (by
      unfold itoa
      rw [if_pos hn, if_neg (by omega), show n.natAbs = (-n).toNat by omega])
    have hs := dtx_size (n := -n) (by omega) b
    go_enter Tryz.func43, Tryz.ntmps43
    go_wp2_with fail
    refine (dec_any _ _ a b).mono ?_
    rintro e w' ⟨rfl, hk⟩
    go_wp2
    go_ret
    refine ⟨retS ?_, hk⟩
    exact (bytes_eq (by simp [dtx_list])).trans (congrArg (fun l => (⟨l.toArray⟩ : ByteArray)) E.out.symm)
  · have a : 0 ≤ n := by omega
    go_enter Tryz.func43, Tryz.ntmps43
    go_wp2_with (go_at_call 28; refine (dec_any _ _ a h1).mono ?_; rintro e w' ⟨rfl, hk⟩)
    go_ret
    exact ⟨rfl, hk⟩
/-- The text of a report; nothing if it is invalid. -/
def tx (s d k v : Int) : ByteArray := if rOk s d k v then ⟨(txt s d k v).toArray⟩ else ⟨#[]⟩
theorem tx_yes {s d k v : Int} (h : rOk s d k v = true) : tx s d k v = ⟨(txt s d k v).toArray⟩ := by simp [tx, h]
theorem tx_no {s d k v : Int} (h : rOk s d k v = false) : tx s d k v = ⟨#[]⟩ := by simp [tx, h]
end Go.Proofs.YtnemdnidlbekbaaGreatDoor
