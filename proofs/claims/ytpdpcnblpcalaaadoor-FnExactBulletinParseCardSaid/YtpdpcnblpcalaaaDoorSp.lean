/- The model's numbers and words. -/
import Derived.Test.YtpdpcnblpcalaaaDoorNum
import Derived.Test.YtpdpcnblpcalaaaDoorKeep
import Derived.LoopTactic
import Derived.IntWalk
import Derived.Lib.Hide
import Derived.WalkSpells
import Derived.Outline
namespace Go.Proofs.YtpdpcnblpcalaaaDoor
open Go.RowKit
set_option linter.unusedVariables false

theorem list_len (s : ByteArray) : s.data.toList.length = s.size := by simp
theorem list_head {s : ByteArray} (h : 0 < s.size) : s.data.toList.headD 0 = s[0] := by
  have h1 := List.drop_eq_getElem_cons (l := s.data.toList) (i := 0) (by simpa using h)
  rw [List.drop_zero] at h1
  rw [h1]; rfl
theorem digs_short {s : ByteArray} (h : ¬ (1 ≤ s.size ∧ s.size ≤ 5)) : digs s.data.toList = -1 := by
  have : digOk s.data.toList = false := by
    rw [digOk, list_len]
    by_cases h1 : 1 ≤ s.size
    · have : decide (s.size ≤ 5) = false := decide_eq_false (fun h2 => h ⟨h1, h2⟩)
      simp [this]
    · have : decide (1 ≤ s.size) = false := decide_eq_false h1
      simp [this]
  simp [digs, this]
theorem digs_zero {s : ByteArray} (h0 : 0 < s.size) (h : 1 < s.size) (hz : (s[0].toNat : Int) = 48) : digs s.data.toList = -1 := by
  have h48 : s[0].toNat = 48 := by omega
  have h49 : s[0] = 48 := UInt8.toNat_inj.1 h48
  have e : (s[0] == 48) = true := by rw [h49]; rfl
  have : digOk s.data.toList = false := by
    rw [digOk, list_len, list_head h0, e]
    simp [h]
  simp [digs, this]
theorem digs_bad {s : ByteArray} {k : Nat} (h : k < s.size) (hd : isDig s[k] = false) : digs s.data.toList = -1 := by
  have hm : s[k] ∈ s.data.toList := by
    have : s.data.toList[k]'(by simpa using h) = s[k] := rfl
    rw [← this]; exact List.getElem_mem _
  have ha : s.data.toList.all isDig = false := by
    rw [List.all_eq_false]
    exact ⟨_, hm, by simp [hd]⟩
  have : digOk s.data.toList = false := by rw [digOk, ha]; simp
  simp [digs, this]
theorem digs_good {s : ByteArray} (h0 : 1 ≤ s.size) (h5 : s.size ≤ 5) (hz : s.size = 1 ∨ ∃ h : 0 < s.size, (s[0].toNat : Int) ≠ 48) (ha : s.data.toList.all isDig = true) : digs s.data.toList = dval s.data.toList 0 := by
  have : digOk s.data.toList = true := by
    rw [digOk, list_len, ha]
    rcases hz with h | ⟨h, hz⟩
    · simp [h]
    · have e : (s[0] == 48) = false := by
        simp only [beq_eq_false_iff_ne, ne_eq]
        intro he
        rw [he] at hz
        exact hz rfl
      rw [list_head h, e]
      simp; omega
  simp [digs, this]
theorem take_next {s : ByteArray} {k : Nat} (h : k < s.size) : s.data.toList.take (k + 1) = s.data.toList.take k ++ [s[k]] := by
  rw [List.take_succ_eq_append_getElem (by simpa using h)]; rfl
theorem take_full {s : ByteArray} : s.data.toList.take s.size = s.data.toList := List.take_of_length_le (by simp)
theorem dig_of' {c : UInt8} (h1 : 48 ≤ (c.toNat : Int)) (h2 : (c.toNat : Int) ≤ 57) : isDig c = true := by simp [isDig]; omega
theorem dig_lo' {c : UInt8} (h1 : (c.toNat : Int) < 48) : isDig c = false := by simp [isDig]; omega
theorem dig_hi' {c : UInt8} (h1 : 57 < (c.toNat : Int)) : isDig c = false := by simp [isDig]; omega
theorem run_next' {s : ByteArray} {k : Nat} {v : Int} (h : k < s.size) (ha : (s.data.toList.take k).all isDig = true) (hv : v = dval (s.data.toList.take k) 0) (hc : isDig s[k] = true) :
    (s.data.toList.take (k + 1)).all isDig = true ∧ 10 * v + ((s[k].toNat : Int) - 48) = dval (s.data.toList.take (k + 1)) 0 := by
  rw [take_next h, List.all_append, ha, dval_append, ← hv]
  simp [hc, dval]
theorem dval_small (u : List UInt8) (h : u.all isDig = true) (h5 : u.length ≤ 5) : 0 ≤ dval u 0 ∧ dval u 0 ≤ 99999 := by
  refine ⟨dval_nonneg _ _ h (by omega), ?_⟩
  have h1 := dval_bound _ 0 h
  rcases (show u.length = 0 ∨ u.length = 1 ∨ u.length = 2 ∨ u.length = 3 ∨ u.length = 4 ∨ u.length = 5 by omega) with h | h | h | h | h | h <;> rw [h] at h1 <;> simp at h1 <;> omega

set_option maxHeartbeats 1000000 in
theorem sdigits_bad (s : ByteArray) (w : World) (hs : s.size ≤ 1048576) (h : ¬ (1 ≤ s.size ∧ s.size ≤ 5) ∨ (∃ h : 0 < s.size, 1 < s.size ∧ (s[0].toNat : Int) = 48)) :
    Calls Tryd.prog 61 #[.string s] w fun e w' => e = .returned (.int .i64 (-1)) ∧ w = w' := by
  by_cases hin : 1 ≤ s.size ∧ s.size ≤ 5
  · rcases h with h | ⟨h0, h1, hz⟩
    · exact absurd hin h
    · have hi : inB (s.size : Int) 1 5 = true := by simp [inB]; omega
      have h1d : decide (1 < (s.size : Int)) = true := by simp; omega
      have hzd : ((s[0].toNat : Int) == 48) = true := by simpa using hz
      have h0i : (0 : Int) < s.size := by omega
      clear hz hin
      go_enter Tryd.func61, Tryd.ntmps61
      go_wp2_with (go_at_call 47; refine (l6In_any _ _ _ _).mono ?_; rintro e w' ⟨rfl, rfl⟩)
      go_ret
      exact ⟨rfl, rfl⟩
  · have hi : inB (s.size : Int) 1 5 = false := by
      simp only [inB, Bool.and_eq_false_iff, decide_eq_false_iff_not]
      omega
    clear h hin
    go_enter Tryd.func61, Tryd.ntmps61
    go_wp2_with (go_at_call 47; refine (l6In_any _ _ _ _).mono ?_; rintro e w' ⟨rfl, rfl⟩)
    go_ret
    exact ⟨rfl, rfl⟩

set_option maxHeartbeats 2000000 in
theorem sdigits_in (s : ByteArray) (w : World) (h1 : 1 ≤ s.size) (h5 : s.size ≤ 5) (hz : s.size = 1 ∨ (1 < s.size ∧ ∃ h : 0 < s.size, (s[0].toNat : Int) ≠ 48)) :
    Calls Tryd.prog 61 #[.string s] w fun e w' => e = .returned (.int .i64 (digs s.data.toList)) ∧ w = w' := by
  have HZ := Lib.hid hz
  have hi : inB (s.size : Int) 1 5 = true := by simp [inB]; omega
  have h0i : (0 : Int) < s.size := by omega
  have h0 : 0 < s.size := by omega
  rcases hz with hz | ⟨hz, h, hne⟩
  case' inl =>
    have h1d : decide (1 < (s.size : Int)) = false := by simp; omega
    clear hz
    go_enter Tryd.func61, Tryd.ntmps61
    go_wp2_with (go_at_call 47; refine (l6In_any _ _ _ _).mono ?_; rintro e w' ⟨rfl, rfl⟩)
  case' inr =>
    have h1d : decide (1 < (s.size : Int)) = true := by simp; omega
    have hzd : ((s[0].toNat : Int) == 48) = false := by simpa using hne
    clear hz hne
    go_enter Tryd.func61, Tryd.ntmps61
    go_wp2_with (go_at_call 47; refine (l6In_any _ _ _ _).mono ?_; rintro e w' ⟨rfl, rfl⟩)
  all_goals
    go_loop [3, 4] (fun n i => ∃ (k : Nat) (v : Int), k ≤ s.size ∧ i = .int .i64 k ∧ n = .int .i64 v ∧ Hid ((s.data.toList.take k).all isDig = true) ∧ Hid (v = dval (s.data.toList.take k) 0)) (fun _ i => s.size - (intOf i).toNat)
    case atStart => exact ⟨0, 0, Nat.zero_le _, rfl, rfl, Lib.hid (by simp), Lib.hid (by simp [dval])⟩
    case round =>
      obtain ⟨k, v, hk, rfl, rfl, HA, HV⟩ := hrel
      obtain ⟨v0, v1⟩ : 0 ≤ v ∧ v ≤ 99999 := by rw [HV.out]; exact dval_small _ HA.out (by simp; omega)
      by_cases hlt : k < s.size
      · have hlti : (k : Int) < s.size := by omega
        by_cases hlo : (s[k].toNat : Int) < 48
        · have HD := Lib.hid (digs_bad hlt (dig_lo' hlo))
          go_wp2
          go_ret
          exact ⟨by rw [HD.out]; rfl, rfl⟩
        · by_cases hhi : 57 < (s[k].toNat : Int)
          · have HD := Lib.hid (digs_bad hlt (dig_hi' hhi))
            go_wp2
            go_ret
            exact ⟨by rw [HD.out]; rfl, rfl⟩
          · obtain ⟨na, nv⟩ := run_next' hlt HA.out HV.out (dig_of' (by omega) (by omega))
            have NA := Lib.hid na
            have NV := Lib.hid nv
            have hl2 : 48 ≤ (s[k].toNat : Int) := by omega
            have hh2 : (s[k].toNat : Int) ≤ 57 := by omega
            clear na nv
            go_wp2
            go_round
            case rel => exact ⟨k + 1, _, by omega, by go_num, rfl, NA, NV⟩
            case measure => simp [intOf]; omega
      · have hke : k = s.size := by omega
        have HD : Hid (v = digs s.data.toList) := Lib.hid (by
          have ha := HA.out
          have hv := HV.out
          rw [hke, take_full] at ha hv
          rw [hv]
          refine (digs_good h1 h5 ?_ ha).symm
          rcases HZ.out with h | ⟨_, h⟩
          · exact .inl h
          · exact .inr h)
        clear hke
        go_wp2
        go_ret
        exact ⟨by rw [← HD.out]; rfl, rfl⟩

theorem sdigits_any (s : ByteArray) (w : World) (hs : s.size ≤ 1048576) :
    Calls Tryd.prog 61 #[.string s] w fun e w' => e = .returned (.int .i64 (digs s.data.toList)) ∧ w = w' := by
  by_cases hin : 1 ≤ s.size ∧ s.size ≤ 5
  · have h0 : 0 < s.size := by omega
    by_cases h1 : s.size = 1
    · exact sdigits_in s w hin.1 hin.2 (.inl h1)
    · by_cases hz : (s[0].toNat : Int) = 48
      · rw [digs_zero h0 (by omega) hz]
        exact sdigits_bad s w hs (.inr ⟨h0, by omega, hz⟩)
      · exact sdigits_in s w hin.1 hin.2 (.inr ⟨by omega, h0, hz⟩)
  · rw [digs_short hin]
    exact sdigits_bad s w hs (.inl hin)
end Go.Proofs.YtpdpcnblpcalaaaDoor
