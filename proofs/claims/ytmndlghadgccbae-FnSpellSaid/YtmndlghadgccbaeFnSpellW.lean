/- P95: a spell has no gaps. -/
import Derived.Test.YtmndlghadgccbaeDrEx
import Derived.Test.YtmndlghadgccbaeEa
import Derived.Test.YtmndlghadgccbaeFr
import Derived.LoopTactic
import Derived.IntWalk
namespace Go.Proofs.Ytmndlghadgccbae
open Go.RowKit
set_option linter.unusedVariables false

theorem re_no {lv x : Int} (h : reB lv x = false) : x = -9999 ∨ ((x == -9999) = false ∧ x < lv) := by
  rcases reB_cases lv x with ⟨h1, _⟩ | ⟨_, h2, h3, _⟩ | ⟨_, _, _, h4⟩
  · exact .inl h1
  · exact .inr ⟨h2, h3⟩
  · rw [h] at h4; cases h4
theorem re_yes {lv x : Int} (h : reB lv x = true) : (x == -9999) = false ∧ lv ≤ x := by
  rcases reB_cases lv x with ⟨_, h1⟩ | ⟨_, _, _, h1⟩ | ⟨_, h2, h3, _⟩
  · rw [h] at h1; cases h1
  · rw [h] at h1; cases h1
  · exact ⟨h2, h3⟩
set_option maxRecDepth 100000 in
set_option maxHeartbeats 6400000 in
theorem walk_FnSpell (a0 : Option Addr) (len0 cap0 : Nat) (z0 : List Int) (w : World) (w0 : IsRow .u8 w a0 len0 cap0 z0) :
    Calls Try.prog 8 #[.slice a0 len0 cap0] w fun e w' => e = .returned (.bool true) ∧ Below w.heap.size w w' := by
  have ha := code_of_row w0
  obtain ⟨hl0, hm0⟩ := ha.1
  unfold maxLen at hm0
  clear w0
  by_cases h : len0 ≤ 1048576
  case' neg =>
    have hd : decide (1048576 < (len0 : Int)) = true := by simp; omega
    go_enter Try.func8, Try.ntmps8
    go_wp2
    go_ret
    exact ⟨rfl, Below.refl _ _⟩
  have hd : decide (1048576 < (len0 : Int)) = false := by simp; omega
  go_enter Try.func8, Try.ntmps8
  go_wp2_with fail
  refine (drawSpellOf a0 len0 cap0 _ ha).mono ?_
  rintro e w1 ⟨a, c, zs, lv, rfl, hl13, hcap, hB, hL1, ⟨lv0, lv1⟩, k1⟩
  have K1 : Keep w w1 := k1
  clear ha hB k1
  go_wp2_with fail
  refine (sp_impl a c zs lv _ hL1 (by omega)).mono ?_
  rintro e w2 ⟨rfl, rfl⟩
  go_wp2_with fail
  refine (sp_spec a c zs lv _ hL1 (by omega)).mono ?_
  rintro e w2 ⟨rfl, rfl⟩
  rcases Bool.eq_false_or_eq_true (sqB zs) with hs | hs
  case' inr =>
    obtain ⟨e1, e2⟩ := sp_no lv hs
    rw [e1, e2]
    go_wp2
    go_ret
    exact ⟨rfl, K1⟩
  obtain ⟨e1, e2⟩ := sp_yes lv hs
  rw [e1, e2]
  have HR := Lib.hid (spM_run zs lv zs.length)
  have hM := (spR_M zs lv zs.length).2
  clear e1 e2 hs
  generalize spF zs lv zs.length = F at *
  generalize spM zs lv zs.length = M at *
  by_cases h0 : M = 0
  · subst h0
    go_wp2
    go_ret
    exact ⟨rfl, K1⟩
  obtain ⟨HA, HB, HC⟩ := HR.out.2 (by omega)
  replace HA := Lib.hid HA
  replace HB := Lib.hid HB
  replace HC := Lib.hid HC
  clear HR
  have d0 : (((M : Nat) : Int) == 0) = false := beq_eq_false_iff_ne.2 (by omega)
  obtain ⟨bz, oz, rfl, hbz, hcz⟩ := hL1.all (by omega)
  have HZ := Lib.hid hcz
  clear hcz hL1
  go_wp2_with fail
  go_loopw [9] (fun i wr => ∃ k : Nat, F ≤ k ∧ k ≤ F + M ∧ i = .int .i64 k ∧ Keep w1 wr) (fun i _ => F + M - (intOf i).toNat)
  case atStart => exact ⟨F, by omega, by omega, rfl, Keep.refl _⟩
  case round =>
    obtain ⟨k, hk0, hk1, rfl, hK⟩ := hrel
    by_cases hlt : k < F + M
    · have hc := hK.cell (HZ.out k (by omega))
      have hx := HA.out (k - F) (by omega)
      rw [show F + (k - F) = k by omega] at hx
      obtain ⟨x1, x2⟩ := re_yes hx
      clear hx
      generalize zs.getD k 0 = x at hc x1 x2
      have q0 : (0 : Int) ≤ (k : Int) := by omega
      have q1 : (k : Int) < (zs.length : Int) := by omega
      have q2 : (k : Int) < (F : Int) + (M : Int) := by omega
      go_wp2_with fail
      go_roundw
      case rel => exact ⟨k + 1, by omega, by omega, by go_num, hK⟩
      case measure => simp [intOf]; omega
    · obtain rfl : k = F + M := by omega
      have hKK := K1.trans hK
      have HE : Hid (F + M = zs.length ∨ (F + M < zs.length ∧ (zs.getD (F + M) 0 = -9999 ∨ ((zs.getD (F + M) 0 == -9999) = false ∧ zs.getD (F + M) 0 < lv)))) := Lib.hid (by
        rcases HC.out with ⟨h1, _⟩ | h1
        · exact .inl h1
        · by_cases h2 : F + M = zs.length
          · exact .inl h2
          · exact .inr ⟨by omega, re_no h1⟩)
      have HS : Hid (F = 0 ∨ ∃ f, F = f + 1 ∧ (zs.getD f 0 = -9999 ∨ ((zs.getD f 0 == -9999) = false ∧ zs.getD f 0 < lv))) := Lib.hid (by
        rcases HB.out with h1 | h1
        · exact .inl h1
        · by_cases h2 : F = 0
          · exact .inl h2
          · exact .inr ⟨F - 1, by omega, re_no h1⟩)
      clear HA HB HC
      have q2 : ¬ (((F + M : Nat) : Int)) < (F : Int) + (M : Int) := by omega
      have d9 : decide ((F : Int) + (M : Int) < (F : Int) + (M : Int)) = false := decide_eq_false (by omega)
      rcases HS.out with rfl | ⟨f, rfl, hf⟩
      · rcases HE.out with he | ⟨he, hv⟩
        · have g1 : (((0 : Nat) : Int) + (M : Int) == (zs.length : Int)) = true := beq_iff_eq.2 (by omega)
          go_wp2_with fail
          go_ret
          exact ⟨rfl, hKK⟩
        · have g1 : (((0 : Nat) : Int) + (M : Int) == (zs.length : Int)) = false := beq_eq_false_iff_ne.2 (by omega)
          have ce := hK.cell (HZ.out (0 + M) he)
          have g2 : ((M : Int) == (zs.length : Int)) = false := beq_eq_false_iff_ne.2 (by omega)
          have g3 : (M : Int) < (zs.length : Int) := by omega
          have g4 : (0 : Int) ≤ (M : Int) := by omega
          have g5 : M < zs.length := by omega
          simp only [Nat.zero_add] at ce hv
          rcases hv with hv | ⟨v1, v2⟩
          · rw [hv] at ce
            go_wp2_with fail
            go_ret
            exact ⟨rfl, hKK⟩
          · generalize zs.getD M 0 = v at ce v1 v2
            go_wp2_with fail
            go_ret
            exact ⟨rfl, hKK⟩
      · have cf := hK.cell (HZ.out f (by omega))
        rcases HE.out with he | ⟨he, hv⟩
        · have g1 : (((f + 1 : Nat) : Int) + (M : Int) == (zs.length : Int)) = true := beq_iff_eq.2 (by omega)
          rcases hf with hf | ⟨f1, f2⟩
          · rw [hf] at cf
            go_wp2_with fail
            go_ret
            exact ⟨rfl, hKK⟩
          · generalize zs.getD f 0 = u at cf f1 f2
            go_wp2_with fail
            go_ret
            exact ⟨rfl, hKK⟩
        · have g1 : (((f + 1 : Nat) : Int) + (M : Int) == (zs.length : Int)) = false := beq_eq_false_iff_ne.2 (by omega)
          have ce := hK.cell (HZ.out (f + 1 + M) he)
          rcases hf with hf | ⟨f1, f2⟩ <;> rcases hv with hv | ⟨v1, v2⟩
          · rw [hf] at cf
            rw [hv] at ce
            go_wp2_with fail
            go_ret
            exact ⟨rfl, hKK⟩
          · rw [hf] at cf
            generalize zs.getD (f + 1 + M) 0 = v at ce v1 v2
            go_wp2_with fail
            go_ret
            exact ⟨rfl, hKK⟩
          · generalize zs.getD f 0 = u at cf f1 f2
            rw [hv] at ce
            go_wp2_with fail
            go_ret
            exact ⟨rfl, hKK⟩
          · generalize zs.getD f 0 = u at cf f1 f2
            generalize zs.getD (f + 1 + M) 0 = v at ce v1 v2
            go_wp2_with fail
            go_ret
            exact ⟨rfl, hKK⟩
end Go.Proofs.Ytmndlghadgccbae
