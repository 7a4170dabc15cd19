/- The program's reader of texts: a text and a place. -/
import Derived.Test.YtnemdnidlbekbaaGreatDoorNum
import Derived.Test.YtnemdnidlbekbaaGreatDoorKeep
import Derived.BigQuiet
import Derived.Deep.QuietTactic
import Derived.LoopTactic
import Derived.Deep.LoopGhost
import Derived.IntWalk
import Derived.Outline
import Derived.Lib.Hide
namespace Go.Proofs.YtnemdnidlbekbaaGreatDoor
open Go.RowKit
set_option linter.unusedVariables false

/-- A reader of 's' in block 'b', at place 'p'. -/
def Cur (w : World) (b : Nat) (s : ByteArray) (p : Nat) : Prop :=
  w.cell? ⟨b, 0, none⟩ = some (.string s) ∧ w.cell? ⟨b, 1, none⟩ = some (.int .i64 p) ∧ w.frozen? ⟨b, 1, none⟩ = false ∧ b < w.heap.size ∧ p ≤ s.size ∧ s.size ≤ 1048576

theorem Cur.drewN {w : World} {b p : Nat} {s : ByteArray} (h : Cur w b s p) (n : Nat) : Cur (w.drewN n) b s p := h

/-- The reader goes on by one byte. -/
theorem Cur.step {w : World} {b p : Nat} {s : ByteArray} (h : Cur w b s p) (hp : p < s.size) : Cur (w.setCell ⟨b, 1, none⟩ (.int .i64 (p + 1 : Nat))) b s (p + 1) ∧ Only b w (w.setCell ⟨b, 1, none⟩ (.int .i64 (p + 1 : Nat))) := by
  obtain ⟨c0, c1, f1, hb, h1, h2⟩ := h
  refine ⟨⟨?_, ?_, ?_, by simpa [World.setCell] using hb, by omega, h2⟩, ⟨rfl, rfl, rfl, by simp [World.setCell], fun i _ hne => Below.heap_setCell _ _ _ _ (by simpa using hne)⟩⟩
  · rw [World.cell?_setCell_other _ _ _ _ (by simp)]; exact c0
  · exact World.cell?_setCell_same _ _ _ c1
  · rw [World.frozen?_setCell]; exact f1

theorem drop_some {s : ByteArray} {p : Nat} (hp : p < s.size) : s.data.toList.drop p = s[p] :: s.data.toList.drop (p + 1) := by
  rw [List.drop_eq_getElem_cons (by simpa using hp)]; rfl
theorem drop_none {s : ByteArray} {p : Nat} (hp : s.size ≤ p) : s.data.toList.drop p = [] := List.drop_of_length_le (by simpa using hp)

set_option maxHeartbeats 400000 in
theorem done_yes (b : Nat) (s : ByteArray) (w : World) (h : Cur w b s s.size) :
    Calls Tryz.prog 71 #[.pointer (some ⟨b, 0, none⟩)] w fun e w' => e = .returned (.bool true) ∧ ∃ n, w' = w.drewN n := by
  obtain ⟨c0, c1, f1, hb, h1, h2⟩ := h
  go_enter Tryz.func71, Tryz.ntmps71
  go_wp2
  go_quiet (fail)
  go_wp2
  go_ret
  exact ⟨rfl, _, rfl⟩

set_option maxHeartbeats 400000 in
theorem done_no (b p : Nat) (s : ByteArray) (w : World) (h : Cur w b s p) (hp : p < s.size) :
    Calls Tryz.prog 71 #[.pointer (some ⟨b, 0, none⟩)] w fun e w' => e = .returned (.bool false) ∧ ∃ n, w' = w.drewN n := by
  obtain ⟨c0, c1, f1, hb, h1, h2⟩ := h
  have hd : ((p : Int) == (s.size : Int)) = false := by simp; omega
  go_enter Tryz.func71, Tryz.ntmps71
  go_wp2
  go_quiet (fail)
  go_wp2
  go_ret
  exact ⟨rfl, _, rfl⟩

set_option maxHeartbeats 400000 in
theorem take_end (b : Nat) (x : Int) (s : ByteArray) (w : World) (h : Cur w b s s.size) :
    Calls Tryz.prog 93 #[.pointer (some ⟨b, 0, none⟩), .int .u8 x] w fun e w' => e = .returned (.bool false) ∧ ∃ n, w' = w.drewN n := by
  obtain ⟨c0, c1, f1, hb, h1, h2⟩ := id h
  go_enter Tryz.func93, Tryz.ntmps93
  go_wp2_with fail
  go_quiet ((go_at_call 71; exact Calls.quiet_of (done_yes b s _ (h.drewN _))))
  go_wp2
  go_ret
  exact ⟨rfl, _, rfl⟩

set_option maxHeartbeats 400000 in
theorem take_no (b p : Nat) (x : Int) (s : ByteArray) (w : World) (h : Cur w b s p) (hp : p < s.size) (hx : (s[p].toNat : Int) ≠ x) :
    Calls Tryz.prog 93 #[.pointer (some ⟨b, 0, none⟩), .int .u8 x] w fun e w' => e = .returned (.bool false) ∧ ∃ n, w' = w.drewN n := by
  obtain ⟨c0, c1, f1, hb, h1, h2⟩ := id h
  have hd : ((s[p].toNat : Int) != x) = true := by simpa using hx
  have hi : (p : Int) < s.size := by omega
  go_enter Tryz.func93, Tryz.ntmps93
  go_wp2_with fail
  go_quiet ((go_at_call 71; exact Calls.quiet_of (done_no b p s _ (h.drewN _) hp)))
  go_wp2
  go_ret
  exact ⟨rfl, _, rfl⟩

set_option maxHeartbeats 400000 in
theorem take_yes (b p : Nat) (x : Int) (s : ByteArray) (w : World) (h : Cur w b s p) (hp : p < s.size) (hx : (s[p].toNat : Int) = x) :
    Calls Tryz.prog 93 #[.pointer (some ⟨b, 0, none⟩), .int .u8 x] w fun e w' => e = .returned (.bool true) ∧ Cur w' b s (p + 1) ∧ Only b w w' := by
  obtain ⟨c0, c1, f1, hb, h1, h2⟩ := id h
  subst hx
  have hi : (p : Int) < s.size := by omega
  have hs : ∀ n, Cur ((w.drewN n).setCell ⟨b, 1, none⟩ (.int .i64 (p + 1 : Nat))) b s (p + 1) ∧ Only b w ((w.drewN n).setCell ⟨b, 1, none⟩ (.int .i64 (p + 1 : Nat))) := fun n =>
    ⟨((h.drewN n).step hp).1, ((Only.refl b w).drewN n).trans ((h.drewN n).step hp).2⟩
  have HS := Lib.hid hs
  clear hs
  go_enter Tryz.func93, Tryz.ntmps93
  go_wp2_with fail
  go_quiet ((go_at_call 71; exact Calls.quiet_of (done_no b p s _ (h.drewN _) hp)))
  go_wp2
  go_ret
  exact ⟨rfl, HS.out _⟩

theorem drop_take_next {s : ByteArray} {p k : Nat} (h : p + k < s.size) : (s.data.toList.drop p).take (k + 1) = (s.data.toList.drop p).take k ++ [s[p + k]] := by
  rw [List.take_succ_eq_append_getElem (by simp; omega)]
  simp only [List.getElem_drop]
  rfl
theorem run_end {s : ByteArray} {p k : Nat} (h : p + k = s.size) (ha : ((s.data.toList.drop p).take k).all isDig = true) : (s.data.toList.drop p).takeWhile isDig = (s.data.toList.drop p).take k := by
  have e : (s.data.toList.drop p).take k = s.data.toList.drop p := List.take_of_length_le (by simp; omega)
  rw [e] at ha ⊢
  exact takeWhile_self _ ha
theorem run_stop {s : ByteArray} {p k : Nat} (h : p + k < s.size) (ha : ((s.data.toList.drop p).take k).all isDig = true) (hc : isDig s[p + k] = false) : (s.data.toList.drop p).takeWhile isDig = (s.data.toList.drop p).take k := by
  have e : s.data.toList.drop p = (s.data.toList.drop p).take k ++ s[p + k] :: s.data.toList.drop (p + k + 1) := by
    have h1 := drop_some h
    rw [← h1, ← List.drop_drop, List.take_append_drop]
  conv => lhs; rw [e]
  exact takeWhile_stop _ _ _ ha hc
theorem run_long {s : ByteArray} {p : Nat} (h : p + 5 < s.size) (ha : ((s.data.toList.drop p).take 5).all isDig = true) (hc : isDig s[p + 5] = true) : digOk ((s.data.toList.drop p).takeWhile isDig) = false := by
  have h6 : ((s.data.toList.drop p).take 6).all isDig = true := by rw [drop_take_next h, List.all_append, ha]; simp [hc]
  have h7 : 6 ≤ ((s.data.toList.drop p).takeWhile isDig).length := by
    have e : s.data.toList.drop p = (s.data.toList.drop p).take 6 ++ (s.data.toList.drop p).drop 6 := (List.take_append_drop 6 _).symm
    rw [e, List.takeWhile_append_of_pos (fun a ha' => List.all_eq_true.1 h6 a ha')]
    simp
    omega
  have : decide (((s.data.toList.drop p).takeWhile isDig).length ≤ 5) = false := by simp; omega
  simp [digOk, this]

theorem run_stop' {s : ByteArray} {p k m : Nat} (hm : m = p + k) (h : m < s.size) (ha : ((s.data.toList.drop p).take k).all isDig = true) (hc : isDig s[m] = false) : (s.data.toList.drop p).takeWhile isDig = (s.data.toList.drop p).take k := by
  subst hm; exact run_stop h ha hc
theorem run_long' {s : ByteArray} {p k m : Nat} (hm : m = p + k) (hk : k = 5) (h : m < s.size) (ha : ((s.data.toList.drop p).take k).all isDig = true) (hc : isDig s[m] = true) : digOk ((s.data.toList.drop p).takeWhile isDig) = false := by
  subst hk; subst hm; exact run_long h ha hc
theorem run_next {s : ByteArray} {p k m : Nat} {v : Int} (hm : m = p + k) (h : m < s.size) (ha : ((s.data.toList.drop p).take k).all isDig = true) (hv : v = dval ((s.data.toList.drop p).take k) 0) (hc : isDig s[m] = true) :
    ((s.data.toList.drop p).take (k + 1)).all isDig = true ∧ 10 * v + ((s[m].toNat : Int) - 48) = dval ((s.data.toList.drop p).take (k + 1)) 0 := by
  subst hm
  rw [drop_take_next h, List.all_append, ha, dval_append, ← hv]
  simp [hc, dval]

/-- When the first k bytes, all digits, are a number. -/
theorem take_ok {s : ByteArray} {p k : Nat} (hpk : p + k ≤ s.size) (hk : k ≤ 5) (ha : ((s.data.toList.drop p).take k).all isDig = true) (hc : k = 1 ∨ (1 < k ∧ ∃ h : p < s.size, (s[p].toNat : Int) ≠ 48)) : digOk ((s.data.toList.drop p).take k) = true ∧ ((s.data.toList.drop p).take k).length = k := by
  have hl : ((s.data.toList.drop p).take k).length = k := by simp; omega
  refine ⟨?_, hl⟩
  rcases hc with rfl | ⟨h1, hp, hne⟩
  · simp [digOk, hl, ha]
  · have hh : (((s.data.toList.drop p).take k).headD 0 == 48) = false := by
      rw [drop_some hp]
      obtain ⟨k, rfl⟩ : ∃ j, k = j + 1 := ⟨k - 1, by omega⟩
      simp only [List.take_succ_cons, List.headD_cons, beq_eq_false_iff_ne, ne_eq]
      intro he
      rw [he] at hne
      exact hne rfl
    rw [digOk, hl, hh, ha]; simp; omega
theorem take_bad {s : ByteArray} {p k : Nat} (hpk : p + k ≤ s.size) (hc : k = 0 ∨ (1 < k ∧ ∃ h : p < s.size, (s[p].toNat : Int) = 48)) : digOk ((s.data.toList.drop p).take k) = false := by
  have hl : ((s.data.toList.drop p).take k).length = k := by simp; omega
  rcases hc with rfl | ⟨h1, hp, he⟩
  · simp [digOk]
  · have hh : (((s.data.toList.drop p).take k).headD 0 == 48) = true := by
      rw [drop_some hp]
      obtain ⟨k, rfl⟩ : ∃ j, k = j + 1 := ⟨k - 1, by omega⟩
      simp only [List.take_succ_cons, List.headD_cons, beq_iff_eq]
      exact UInt8.toNat_inj.1 (by have : (48 : UInt8).toNat = 48 := rfl; omega)
    rw [digOk, hl, hh]; simp [h1]

/-- What 'digits' leaves. -/
def DigPost (w : World) (b p : Nat) (s : ByteArray) (e : Ending) (w' : World) : Prop :=
  ∃ q, Cur w' b s q ∧ Only b w w' ∧
    ((digOk ((s.data.toList.drop p).takeWhile isDig) = true ∧ q = p + ((s.data.toList.drop p).takeWhile isDig).length ∧ e = .returned (.tuple #[.int .i64 (dval ((s.data.toList.drop p).takeWhile isDig) 0), .bool true])) ∨
     (digOk ((s.data.toList.drop p).takeWhile isDig) = false ∧ e = .returned (.tuple #[.int .i64 0, .bool false])))

/-- What holds ahead of each round of 'digits'. -/
def DigRel (w : World) (b p : Nat) (s : ByteArray) (k : Nat) (v : Int) (wr : World) : Prop :=
  k ≤ 5 ∧ p + k ≤ s.size ∧ ((s.data.toList.drop p).take k).all isDig = true ∧ v = dval ((s.data.toList.drop p).take k) 0 ∧ Cur wr b s (p + k) ∧ Only b w wr

theorem dig_of {c : UInt8} (h1 : 48 ≤ (c.toNat : Int)) (h2 : (c.toNat : Int) ≤ 57) : isDig c = true := by simp [isDig]; omega
theorem dig_lo {c : UInt8} (h1 : (c.toNat : Int) < 48) : isDig c = false := by simp [isDig]; omega
theorem dig_hi {c : UInt8} (h1 : 57 < (c.toNat : Int)) : isDig c = false := by simp [isDig]; omega

set_option maxRecDepth 100000 in
set_option maxHeartbeats 2000000 in
theorem digits_any (b p : Nat) (s : ByteArray) (w : World) (h : Cur w b s p) :
    Calls Tryz.prog 120 #[.pointer (some ⟨b, 0, none⟩)] w (DigPost w b p s) := by
  obtain ⟨c0, c1, f1, hb, h1, h2⟩ := id h
  go_enter Tryz.func120, Tryz.ntmps120
  go_wp2_with fail
  go_loopg [5] 6 (fun g n wr => ∃ (k : Nat) (v : Int), g = 6 - k ∧ n = .int .i64 v ∧ DigRel w b p s k v wr)
  case atStart => exact ⟨0, 0, rfl, rfl, by omega, by omega, by simp, by simp [dval], h, Only.refl b w⟩
  case round =>
    obtain ⟨k, v, rfl, rfl, hk, hpk, hall, hv, hcur, honly⟩ := hrel
    have HV := Lib.hid hv
    have HA := Lib.hid hall
    have v0 : 0 ≤ v := by rw [hv]; exact dval_nonneg _ _ hall (by omega)
    have v1 : v ≤ 99999 := by
      have h1 := dval_bound _ 0 hall
      have h2 : (((s.data.toList.drop p).take k).length) ≤ 5 := by simp; omega
      rcases (show ((s.data.toList.drop p).take k).length = 0 ∨ ((s.data.toList.drop p).take k).length = 1 ∨ ((s.data.toList.drop p).take k).length = 2 ∨ ((s.data.toList.drop p).take k).length = 3 ∨ ((s.data.toList.drop p).take k).length = 4 ∨ ((s.data.toList.drop p).take k).length = 5 by omega) with h | h | h | h | h | h <;> rw [h] at h1 <;> simp at h1 <;> omega
    have hpk0 := hpk
    obtain ⟨m, hm0⟩ : ∃ m, m = p + k := ⟨_, rfl⟩
    rw [← hm0] at hcur hpk
    have hsub : (m : Int) - (p : Int) = k := by omega
    have hpm : p ≤ m := by omega
    have hm := Lib.hid hm0
    clear hv hall c0 c1 f1 hb
    obtain ⟨c0, c1, f1, hb, _, _⟩ := id hcur
    by_cases hend : m = s.size
    · have HE := Lib.hid (run_end (hm0 ▸ hend) HA.out)
      have hcur' : Cur wr b s s.size := hend ▸ hcur
      have HN := Lib.hid hend
      clear hend hm0
      rcases (show k = 0 ∨ k = 1 ∨ 1 < k by omega) with hk0 | hk0 | hk0
      case' inr.inr =>
        have hp0 : p < s.size := by omega
        have hpi : (p : Int) < s.size := by omega
        have hk1 : decide (1 < (k : Int)) = true := by simp; omega
        have hkz : ((k : Int) == 0) = false := by simp; omega
        by_cases h48 : (s[p].toNat : Int) = 48
        case' pos =>
          have HB := Lib.hid (take_bad hpk0 (.inr ⟨hk0, hp0, h48⟩))
          have hb48 : ((s[p].toNat : Int) == 48) = true := by simpa using h48
          clear h48
          go_wp2_with fail
          go_quiet ((go_at_call 71; exact Calls.quiet_of (done_yes b s _ (hcur'.drewN _))))
          go_wp2
          go_ret2
          exact ⟨_, hcur.drewN _, honly.drewN _, .inr ⟨by rw [HE.out]; exact HB.out, rfl⟩⟩
        case' neg =>
          have HB := Lib.hid (take_ok hpk0 hk HA.out (.inr ⟨hk0, hp0, h48⟩))
          have hb48 : ((s[p].toNat : Int) == 48) = false := by simpa using h48
          clear h48
          go_wp2_with fail
          go_quiet ((go_at_call 71; exact Calls.quiet_of (done_yes b s _ (hcur'.drewN _))))
          go_wp2
          go_ret2
          exact ⟨_, hcur.drewN _, honly.drewN _, .inl ⟨by rw [HE.out]; exact HB.out.1, by rw [HE.out, HB.out.2]; exact hm.out, by rw [HE.out, ← HV.out]; rfl⟩⟩
      case' inl =>
        have HB := Lib.hid (take_bad hpk0 (.inl hk0))
        have hkz : ((k : Int) == 0) = true := by simp; omega
        clear hk0
        go_wp2_with fail
        go_quiet ((go_at_call 71; exact Calls.quiet_of (done_yes b s _ (hcur'.drewN _))))
        go_wp2
        go_ret2
        exact ⟨_, hcur.drewN _, honly.drewN _, .inr ⟨by rw [HE.out]; exact HB.out, rfl⟩⟩
      case' inr.inl =>
        have HB := Lib.hid (take_ok hpk0 hk HA.out (.inl hk0))
        have hk1 : decide (1 < (k : Int)) = false := by simp; omega
        have hkz : ((k : Int) == 0) = false := by simp; omega
        clear hk0
        go_wp2_with fail
        go_quiet ((go_at_call 71; exact Calls.quiet_of (done_yes b s _ (hcur'.drewN _))))
        go_wp2
        go_ret2
        exact ⟨_, hcur.drewN _, honly.drewN _, .inl ⟨by rw [HE.out]; exact HB.out.1, by rw [HE.out, HB.out.2]; exact hm.out, by rw [HE.out, ← HV.out]; rfl⟩⟩
    · have hlt : m < s.size := by omega
      have hlti : (m : Int) < s.size := by omega
      clear hend
      by_cases hlo : 48 ≤ (s[m].toNat : Int)
      case' neg =>
        have HE := Lib.hid (run_stop' hm0 hlt HA.out (dig_lo (by omega)))
        have hl : decide (48 ≤ (s[m].toNat : Int)) = false := by simp; omega
        clear hm0 hlo
        rcases (show k = 0 ∨ k = 1 ∨ 1 < k by omega) with hk0 | hk0 | hk0
        case' inr.inr =>
          have hp0 : p < s.size := by omega
          have hpi : (p : Int) < s.size := by omega
          have hk1 : decide (1 < (k : Int)) = true := by simp; omega
          have hkz : ((k : Int) == 0) = false := by simp; omega
          by_cases h48 : (s[p].toNat : Int) = 48
          case' pos =>
            have HB := Lib.hid (take_bad hpk0 (.inr ⟨hk0, hp0, h48⟩))
            have hb48 : ((s[p].toNat : Int) == 48) = true := by simpa using h48
            clear h48
            go_wp2_with fail
            go_quiet ((go_at_call 71; exact Calls.quiet_of (done_no b m s _ (hcur.drewN _) hlt)))
            go_wp2
            go_ret2
            exact ⟨_, hcur.drewN _, honly.drewN _, .inr ⟨by rw [HE.out]; exact HB.out, rfl⟩⟩
          case' neg =>
            have HB := Lib.hid (take_ok hpk0 hk HA.out (.inr ⟨hk0, hp0, h48⟩))
            have hb48 : ((s[p].toNat : Int) == 48) = false := by simpa using h48
            clear h48
            go_wp2_with fail
            go_quiet ((go_at_call 71; exact Calls.quiet_of (done_no b m s _ (hcur.drewN _) hlt)))
            go_wp2
            go_ret2
            exact ⟨_, hcur.drewN _, honly.drewN _, .inl ⟨by rw [HE.out]; exact HB.out.1, by rw [HE.out, HB.out.2]; exact hm.out, by rw [HE.out, ← HV.out]; rfl⟩⟩
        case' inl =>
          have HB := Lib.hid (take_bad hpk0 (.inl hk0))
          have hkz : ((k : Int) == 0) = true := by simp; omega
          clear hk0
          go_wp2_with fail
          go_quiet ((go_at_call 71; exact Calls.quiet_of (done_no b m s _ (hcur.drewN _) hlt)))
          go_wp2
          go_ret2
          exact ⟨_, hcur.drewN _, honly.drewN _, .inr ⟨by rw [HE.out]; exact HB.out, rfl⟩⟩
        case' inr.inl =>
          have HB := Lib.hid (take_ok hpk0 hk HA.out (.inl hk0))
          have hk1 : decide (1 < (k : Int)) = false := by simp; omega
          have hkz : ((k : Int) == 0) = false := by simp; omega
          clear hk0
          go_wp2_with fail
          go_quiet ((go_at_call 71; exact Calls.quiet_of (done_no b m s _ (hcur.drewN _) hlt)))
          go_wp2
          go_ret2
          exact ⟨_, hcur.drewN _, honly.drewN _, .inl ⟨by rw [HE.out]; exact HB.out.1, by rw [HE.out, HB.out.2]; exact hm.out, by rw [HE.out, ← HV.out]; rfl⟩⟩
      case' pos =>
        by_cases hhi : (s[m].toNat : Int) ≤ 57
        case' neg =>
          have HE := Lib.hid (run_stop' hm0 hlt HA.out (dig_hi (by omega)))
          have hl : decide ((s[m].toNat : Int) ≤ 57) = false := by simp; omega
          clear hm0 hhi
          rcases (show k = 0 ∨ k = 1 ∨ 1 < k by omega) with hk0 | hk0 | hk0
          case' inr.inr =>
            have hp0 : p < s.size := by omega
            have hpi : (p : Int) < s.size := by omega
            have hk1 : decide (1 < (k : Int)) = true := by simp; omega
            have hkz : ((k : Int) == 0) = false := by simp; omega
            by_cases h48 : (s[p].toNat : Int) = 48
            case' pos =>
              have HB := Lib.hid (take_bad hpk0 (.inr ⟨hk0, hp0, h48⟩))
              have hb48 : ((s[p].toNat : Int) == 48) = true := by simpa using h48
              clear h48
              go_wp2_with fail
              go_quiet ((go_at_call 71; exact Calls.quiet_of (done_no b m s _ (hcur.drewN _) hlt)))
              go_wp2
              go_ret2
              exact ⟨_, hcur.drewN _, honly.drewN _, .inr ⟨by rw [HE.out]; exact HB.out, rfl⟩⟩
            case' neg =>
              have HB := Lib.hid (take_ok hpk0 hk HA.out (.inr ⟨hk0, hp0, h48⟩))
              have hb48 : ((s[p].toNat : Int) == 48) = false := by simpa using h48
              clear h48
              go_wp2_with fail
              go_quiet ((go_at_call 71; exact Calls.quiet_of (done_no b m s _ (hcur.drewN _) hlt)))
              go_wp2
              go_ret2
              exact ⟨_, hcur.drewN _, honly.drewN _, .inl ⟨by rw [HE.out]; exact HB.out.1, by rw [HE.out, HB.out.2]; exact hm.out, by rw [HE.out, ← HV.out]; rfl⟩⟩
          case' inl =>
            have HB := Lib.hid (take_bad hpk0 (.inl hk0))
            have hkz : ((k : Int) == 0) = true := by simp; omega
            clear hk0
            go_wp2_with fail
            go_quiet ((go_at_call 71; exact Calls.quiet_of (done_no b m s _ (hcur.drewN _) hlt)))
            go_wp2
            go_ret2
            exact ⟨_, hcur.drewN _, honly.drewN _, .inr ⟨by rw [HE.out]; exact HB.out, rfl⟩⟩
          case' inr.inl =>
            have HB := Lib.hid (take_ok hpk0 hk HA.out (.inl hk0))
            have hk1 : decide (1 < (k : Int)) = false := by simp; omega
            have hkz : ((k : Int) == 0) = false := by simp; omega
            clear hk0
            go_wp2_with fail
            go_quiet ((go_at_call 71; exact Calls.quiet_of (done_no b m s _ (hcur.drewN _) hlt)))
            go_wp2
            go_ret2
            exact ⟨_, hcur.drewN _, honly.drewN _, .inl ⟨by rw [HE.out]; exact HB.out.1, by rw [HE.out, HB.out.2]; exact hm.out, by rw [HE.out, ← HV.out]; rfl⟩⟩
        case' pos =>
          by_cases h5 : k = 5
          case' pos =>
            have HD : Hid (digOk ((s.data.toList.drop p).takeWhile isDig) = false) := Lib.hid (run_long' hm0 h5 hlt HA.out (dig_of hlo hhi))
            have hk5 : ((k : Int) == 5) = true := by simp; omega
            clear h5 hm0
            go_wp2_with fail
            go_quiet ((go_at_call 71; exact Calls.quiet_of (done_no b m s _ (hcur.drewN _) hlt)))
            go_wp2
            go_ret2
            exact ⟨_, hcur.drewN _, honly.drewN _, .inr ⟨HD.out, rfl⟩⟩
          case' neg =>
            have hk5 : ((k : Int) == 5) = false := by simp; omega
            have hstep := fun n => (hcur.drewN n).step hlt
            have HS := Lib.hid hstep
            have hw8 : IntKind.u8.wrap ((s[m].toNat : Int) - 48) = (s[m].toNat : Int) - 48 := IntWalk.u8_in _ (by omega)
            have hw1 : IntKind.i64.wrap ((s[m].toNat : Int) - 48) = (s[m].toNat : Int) - 48 := IntWalk.i64_in _ (by omega)
            have hw2 : IntKind.i64.wrap (10 * v) = 10 * v := IntWalk.i64_in _ (by omega)
            have hw3 : IntKind.i64.wrap (10 * v + ((s[m].toNat : Int) - 48)) = 10 * v + ((s[m].toNat : Int) - 48) := IntWalk.i64_in _ (by omega)
            obtain ⟨na, nv⟩ := run_next hm0 hlt HA.out HV.out (dig_of hlo hhi)
            have NA := Lib.hid na
            have NV := Lib.hid nv
            have HK := Lib.hid (show k < 5 by omega)
            have HM := Lib.hid hpk
            clear hstep h5 hm0 na nv
            go_wp2_with fail
            go_quiet ((go_at_call 71; exact Calls.quiet_of (done_no b m s _ (hcur.drewN _) hlt)))
            go_wp2_with fail
            go_quiet (fail)
            go_wp2
            go_roundg (5 - k)
            case measure => have := HK.out; omega
            case rel =>
              have hmk := hm.out
              refine ⟨k + 1, _, by have := HK.out; omega, rfl, by have := HK.out; omega, by omega, NA.out, NV.out, ?_, ?_⟩
              · rw [← Nat.add_assoc, ← hmk]; exact (HS.out _).1
              · exact (honly.drewN _).trans (HS.out _).2
end Go.Proofs.YtnemdnidlbekbaaGreatDoor
