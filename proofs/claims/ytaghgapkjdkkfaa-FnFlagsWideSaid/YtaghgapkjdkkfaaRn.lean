/- Runs of equal values around a day: the program and the model answer 'dn + 1 + up'. -/
import Derived.Test.YtaghgapkjdkkfaaFg
import Derived.LoopTactic
import Derived.Deep.QuietTactic
import Derived.BigQuiet
namespace Go.Proofs.Ytaghgapkjdkkfaa
open Go.RowKit
set_option linter.unusedVariables false

def runN (zs : List Int) (k : Nat) : Nat := dn zs k + 1 + up zs k
set_option maxRecDepth 100000 in
set_option maxHeartbeats 2000000 in
theorem ea_impl (a : Option Addr) (cap : Nat) (zs : List Int) (k : Nat) (w : World) (h : Ls w a zs) (hm : zs.length ≤ 4611686018427387904) (hk : k < zs.length) :
    Calls Try.prog 53 #[.slice a zs.length cap, .int .i64 (k : Int)] w fun e w' => e = .returned (.int .i64 (runN zs k : Int)) ∧ ∃ n, w' = w.drewN n := by
  obtain ⟨b, off, rfl, hb, hc⟩ := h.all (by omega)
  have ck := hc k hk
  obtain ⟨x, hx⟩ : ∃ x, zs.getD k 0 = x := ⟨_, rfl⟩
  have HX := Lib.hid hx
  have HC := Lib.hid hc
  rw [hx] at ck
  have hdk := dn_le hk
  have huk := up_le hk
  clear hx hc h
  have k0 : (0 : Int) ≤ (k : Int) := by omega
  have k1 : (k : Int) < (zs.length : Int) := by omega
  go_enter Try.func53, Try.ntmps53
  go_wp2_with fail
  go_loopw [5] (fun f wr => ∃ (j m n : Nat), m + j = k ∧ j ≤ dn zs k ∧ f = .int .i64 (m : Int) ∧ wr = w.drewN n) (fun f _ => (intOf f).toNat)
  case atStart => exact ⟨0, k, 0, by omega, by omega, rfl, rfl⟩
  case round =>
    obtain ⟨j, m, n, hmj, hj, rfl, rfl⟩ := hrel
    have hs := dn_step hk hj
    by_cases hlt : j < dn zs k
    case' pos =>
      obtain ⟨h1, h2⟩ := hs.1 hlt
      obtain ⟨m', rfl⟩ : ∃ m', m = m' + 1 := ⟨m - 1, by omega⟩
      have cj := HC.out m' (by omega)
      rw [show m' = k - 1 - j by omega, h2, HX.out, show k - 1 - j = m' by omega] at cj
      have q0 : (0 : Int) ≤ (m' : Int) := by omega
      have q1 : (m' : Int) < (zs.length : Int) := by omega
      clear hs h2
      go_wp2_with fail
      go_quiet (fail)
      go_wp2
      go_roundw
      case rel => exact ⟨j + 1, m', _, by omega, by omega, by go_num, rfl⟩
      case measure => first | (simp [intOf]; done) | (simp [intOf]; omega)
    by_cases h0 : m = 0
    case' pos =>
      subst h0
      go_wp2_with fail
      go_quiet (fail)
    case' neg =>
      obtain ⟨m', rfl⟩ : ∃ m', m = m' + 1 := ⟨m - 1, by omega⟩
      have cj := HC.out m' (by omega)
      obtain ⟨y, hy⟩ : ∃ y, zs.getD m' 0 = y := ⟨_, rfl⟩
      rw [hy] at cj
      have hne : (y == x) = false := beq_eq_false_iff_ne.2 (fun e => hlt (hs.2 ⟨by omega, by rw [show k - 1 - j = m' by omega, hy, e]; exact HX.out.symm⟩))
      have q0 : (0 : Int) ≤ (m' : Int) := by omega
      have q1 : (m' : Int) < (zs.length : Int) := by omega
      clear hs hy
      go_wp2_with fail
      go_quiet (fail)
    all_goals
      obtain rfl : j = dn zs k := by omega
      go_wp2_with fail
      go_loopw [6] (fun f wr => ∃ (j n : Nat), j ≤ up zs k ∧ f = .int .i64 ((k + 1 + j : Nat) : Int) ∧ wr = w.drewN n) (fun f _ => zs.length - (intOf f).toNat)
      case atStart => exact ⟨0, _, by omega, by go_num, by first | rfl | exact World.drewN_drewN ..⟩
      case round =>
        obtain ⟨j, n', hj, rfl, rfl⟩ := hrel
        have hs := up_step hj
        by_cases hlt : j < up zs k
        · obtain ⟨h1, h2⟩ := hs.1 hlt
          have cj := HC.out (k + 1 + j) h1
          rw [h2, HX.out] at cj
          obtain ⟨t, ht⟩ : ∃ t, k + 1 + j = t := ⟨_, rfl⟩
          rw [ht] at cj h1
          have q0 : (0 : Int) ≤ (t : Int) := by omega
          have q1 : (t : Int) < (zs.length : Int) := by omega
          have q2 : ((k + 1 + j : Nat) : Int) = (t : Int) := by omega
          rw [q2]
          clear hs h2
          go_wp2_with fail
          go_quiet (fail)
          go_wp2
          go_roundw
          case rel => exact ⟨j + 1, _, by omega, by go_num, rfl⟩
          case measure => first | (simp [intOf]; done) | (simp [intOf]; omega)
        · obtain rfl : j = up zs k := by omega
          by_cases h0 : k + 1 + up zs k < zs.length
          · have cj := HC.out (k + 1 + up zs k) h0
            obtain ⟨y, hy⟩ : ∃ y, zs.getD (k + 1 + up zs k) 0 = y := ⟨_, rfl⟩
            rw [hy] at cj
            have hne : (y == x) = false := beq_eq_false_iff_ne.2 (fun e => hlt (hs.2 ⟨h0, by rw [hy, e]; exact HX.out.symm⟩))
            clear hs hy
            obtain ⟨t, ht⟩ : ∃ t, k + 1 + up zs k = t := ⟨_, rfl⟩
            rw [ht] at cj h0
            have q0 : (0 : Int) ≤ (t : Int) := by omega
            have q1 : (t : Int) < (zs.length : Int) := by omega
            have q2 : ((k + 1 + up zs k : Nat) : Int) = (t : Int) := by omega
            rw [q2]
            go_wp2_with fail
            go_quiet (fail)
            go_wp2
            go_ret
            exact ⟨retI (by unfold runN; omega), by first | exact ⟨_, rfl⟩ | exact ⟨_, World.drewN_drewN ..⟩⟩
          · have q1 : ¬ ((k + 1 + up zs k : Nat) : Int) < (zs.length : Int) := by omega
            obtain ⟨t, ht⟩ : ∃ t, k + 1 + up zs k = t := ⟨_, rfl⟩
            have q2 : ((k + 1 + up zs k : Nat) : Int) = (t : Int) := by omega
            rw [q2] at q1 ⊢
            have q3 : decide ((t : Int) < (zs.length : Int)) = false := decide_eq_false q1
            have q4 : decide (t < zs.length) = false := decide_eq_false (by omega)
            have q5 : ¬ t < zs.length := by omega
            go_wp2_with fail
            go_quiet (fail)
            go_wp2
            go_ret
            exact ⟨retI (by unfold runN; omega), by first | exact ⟨_, rfl⟩ | exact ⟨_, World.drewN_drewN ..⟩⟩
set_option maxRecDepth 100000 in
set_option maxHeartbeats 2000000 in
theorem lr_spec (a : Option Addr) (cap : Nat) (zs : List Int) (k : Nat) (w : World) (h : Ls w a zs) (hm : zs.length ≤ 4611686018427387904) (hk : k < zs.length) :
    Calls Try.prog 54 #[.slice a zs.length cap, .int .i64 (k : Int)] w fun e w' => e = .returned (.int .i64 (runN zs k : Int)) ∧ ∃ n, w' = w.drewN n := by
  obtain ⟨b, off, rfl, hb, hc⟩ := h.all (by omega)
  have ck := hc k hk
  obtain ⟨x, hx⟩ : ∃ x, zs.getD k 0 = x := ⟨_, rfl⟩
  have HX := Lib.hid hx
  have HC := Lib.hid hc
  rw [hx] at ck
  have hdk := dn_le hk
  have huk := up_le hk
  clear hx hc h
  have k0 : (0 : Int) ≤ (k : Int) := by omega
  have k1 : (k : Int) < (zs.length : Int) := by omega
  go_enter Try.func54, Try.ntmps54
  go_wp2_with fail
  go_loopw [5, 6] (fun c f wr => ∃ (j m n : Nat), m + j = k ∧ j ≤ dn zs k ∧ c = .int .i64 (1 + (j : Int)) ∧ f = .int .i64 ((m : Int) - 1) ∧ wr = w.drewN n) (fun _ f _ => (intOf f + 1).toNat)
  case atStart => exact ⟨0, k, 0, by omega, by omega, rfl, rfl, rfl⟩
  case round =>
    obtain ⟨j, m, n, hmj, hj, rfl, rfl, rfl⟩ := hrel
    have hs := dn_step hk hj
    by_cases hlt : j < dn zs k
    case' pos =>
      obtain ⟨h1, h2⟩ := hs.1 hlt
      obtain ⟨m', rfl⟩ : ∃ m', m = m' + 1 := ⟨m - 1, by omega⟩
      have cj := HC.out m' (by omega)
      rw [show m' = k - 1 - j by omega, h2, HX.out, show k - 1 - j = m' by omega] at cj
      have q0 : (0 : Int) ≤ (m' : Int) := by omega
      have q1 : (m' : Int) < (zs.length : Int) := by omega
      clear hs h2
      go_wp2_with fail
      go_quiet (fail)
      go_wp2
      go_roundw
      case rel => exact ⟨j + 1, m', _, by omega, by omega, by go_num, by go_num, rfl⟩
      case measure => first | (simp [intOf]; done) | (simp [intOf]; omega)
    by_cases h0 : m = 0
    case' pos =>
      subst h0
      go_wp2_with fail
      go_quiet (fail)
    case' neg =>
      obtain ⟨m', rfl⟩ : ∃ m', m = m' + 1 := ⟨m - 1, by omega⟩
      have cj := HC.out m' (by omega)
      obtain ⟨y, hy⟩ : ∃ y, zs.getD m' 0 = y := ⟨_, rfl⟩
      rw [hy] at cj
      have hne : (y == x) = false := beq_eq_false_iff_ne.2 (fun e => hlt (hs.2 ⟨by omega, by rw [show k - 1 - j = m' by omega, hy, e]; exact HX.out.symm⟩))
      have q0 : (0 : Int) ≤ (m' : Int) := by omega
      have q1 : (m' : Int) < (zs.length : Int) := by omega
      clear hs hy
      go_wp2_with fail
      go_quiet (fail)
    all_goals
      obtain rfl : j = dn zs k := by omega
      go_wp2_with fail
      go_loopw [5, 7] (fun c f wr => ∃ (j n : Nat), j ≤ up zs k ∧ c = .int .i64 (1 + (dn zs k : Int) + (j : Int)) ∧ f = .int .i64 ((k + 1 + j : Nat) : Int) ∧ wr = w.drewN n) (fun _ f _ => zs.length - (intOf f).toNat)
      case atStart => exact ⟨0, _, by omega, by go_num, by go_num, by first | rfl | exact World.drewN_drewN ..⟩
      case round =>
        obtain ⟨j, n', hj, rfl, rfl, rfl⟩ := hrel
        have hs := up_step hj
        by_cases hlt : j < up zs k
        · obtain ⟨h1, h2⟩ := hs.1 hlt
          have cj := HC.out (k + 1 + j) h1
          rw [h2, HX.out] at cj
          obtain ⟨t, ht⟩ : ∃ t, k + 1 + j = t := ⟨_, rfl⟩
          rw [ht] at cj h1
          have q0 : (0 : Int) ≤ (t : Int) := by omega
          have q1 : (t : Int) < (zs.length : Int) := by omega
          have q2 : ((k + 1 + j : Nat) : Int) = (t : Int) := by omega
          rw [q2]
          clear hs h2
          go_wp2_with fail
          go_quiet (fail)
          go_wp2
          go_roundw
          case rel => exact ⟨j + 1, _, by omega, by go_num, by go_num, rfl⟩
          case measure => first | (simp [intOf]; done) | (simp [intOf]; omega)
        · obtain rfl : j = up zs k := by omega
          by_cases h0 : k + 1 + up zs k < zs.length
          · have cj := HC.out (k + 1 + up zs k) h0
            obtain ⟨y, hy⟩ : ∃ y, zs.getD (k + 1 + up zs k) 0 = y := ⟨_, rfl⟩
            rw [hy] at cj
            have hne : (y == x) = false := beq_eq_false_iff_ne.2 (fun e => hlt (hs.2 ⟨h0, by rw [hy, e]; exact HX.out.symm⟩))
            clear hs hy
            obtain ⟨t, ht⟩ : ∃ t, k + 1 + up zs k = t := ⟨_, rfl⟩
            rw [ht] at cj h0
            have q0 : (0 : Int) ≤ (t : Int) := by omega
            have q1 : (t : Int) < (zs.length : Int) := by omega
            have q2 : ((k + 1 + up zs k : Nat) : Int) = (t : Int) := by omega
            rw [q2]
            go_wp2_with fail
            go_quiet (fail)
            go_wp2
            go_ret
            exact ⟨retI (by unfold runN; omega), by first | exact ⟨_, rfl⟩ | exact ⟨_, World.drewN_drewN ..⟩⟩
          · have q1 : ¬ ((k + 1 + up zs k : Nat) : Int) < (zs.length : Int) := by omega
            obtain ⟨t, ht⟩ : ∃ t, k + 1 + up zs k = t := ⟨_, rfl⟩
            have q2 : ((k + 1 + up zs k : Nat) : Int) = (t : Int) := by omega
            rw [q2] at q1 ⊢
            have q3 : decide ((t : Int) < (zs.length : Int)) = false := decide_eq_false q1
            have q4 : decide (t < zs.length) = false := decide_eq_false (by omega)
            have q5 : ¬ t < zs.length := by omega
            go_wp2_with fail
            go_quiet (fail)
            go_wp2
            go_ret
            exact ⟨retI (by unfold runN; omega), by first | exact ⟨_, rfl⟩ | exact ⟨_, World.drewN_drewN ..⟩⟩
end Go.Proofs.Ytaghgapkjdkkfaa
