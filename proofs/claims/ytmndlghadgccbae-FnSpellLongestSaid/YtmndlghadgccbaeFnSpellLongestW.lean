/- P96: no spell is longer. -/
import Derived.Test.YtmndlghadgccbaeDrEx
import Derived.Test.YtmndlghadgccbaeEa
import Derived.Test.YtmndlghadgccbaeFr
import Derived.LoopTactic
import Derived.IntWalk
namespace Go.Proofs.Ytmndlghadgccbae
open Go.RowKit
set_option linter.unusedVariables false

set_option maxRecDepth 100000 in
set_option maxHeartbeats 6400000 in
theorem walk_FnSpellLongest (a0 : Option Addr) (len0 cap0 : Nat) (z0 : List Int) (w : World) (w0 : IsRow .u8 w a0 len0 cap0 z0) :
    Calls Try.prog 9 #[.slice a0 len0 cap0] w fun e w' => e = .returned (.bool true) ∧ Below w.heap.size w w' := by
  have ha := code_of_row w0
  obtain ⟨hl0, hm0⟩ := ha.1
  unfold maxLen at hm0
  clear w0
  by_cases h : len0 ≤ 1048576
  case' neg =>
    have hd : decide (1048576 < (len0 : Int)) = true := by simp; omega
    go_enter Try.func9, Try.ntmps9
    go_wp2
    go_ret
    exact ⟨rfl, Below.refl _ _⟩
  have hd : decide (1048576 < (len0 : Int)) = false := by simp; omega
  go_enter Try.func9, Try.ntmps9
  go_wp2_with fail
  refine (drawSpellOf a0 len0 cap0 _ ha).mono ?_
  rintro e w1 ⟨a, c, zs, lv, rfl, hl13, hcap, hB, hL1, ⟨lv0, lv1⟩, k1⟩
  have K1 : Keep w w1 := k1
  clear ha hB k1
  go_wp2_with fail
  refine (sp_impl a c zs lv _ hL1 (by omega)).mono ?_
  rintro e w2 ⟨rfl, rfl⟩
  go_wp2_with fail
  refine (sp_spec a c zs lv _ hL1 (by omega)).mono ?_
  rintro e w2 ⟨rfl, rfl⟩
  have HQS := Lib.hid (sqv_spec a c zs w1 hL1 (by omega))
  rcases Bool.eq_false_or_eq_true (sqB zs) with hs | hs
  case' inr =>
    obtain ⟨e1, e2⟩ := sp_no lv hs
    rw [e1, e2]
    rw [hs] at HQS
    go_wp2_with fail
    refine HQS.out.mono ?_
    rintro e w2 ⟨rfl, rfl⟩
    go_wp2
    go_ret
    exact ⟨rfl, K1⟩
  obtain ⟨e1, e2⟩ := sp_yes lv hs
  rw [e1, e2]
  rw [hs] at HQS
  have HAB := Lib.hid (fun W (k : Keep w1 W) => ab_impl a c zs lv W (hL1.keep k) (by omega))
  rw [abV_yes lv hs] at HAB
  have hA := (sp_ab zs lv zs.length).2
  have hM := (spR_M zs lv zs.length).2
  have HMO := Lib.hid (fun k (hk : k ≤ zs.length) => spM_mono zs lv hk)
  have HFI := Lib.hid (fun k (hk : k ≤ zs.length) => spM_first zs lv hk)
  have HRM := Lib.hid (fun k => (spR_M zs lv k).1)
  have HZ0 := Lib.hid (spM_run zs lv zs.length).1
  have hab := abN_le zs lv zs.length
  clear e1 e2 hs
  generalize spF zs lv zs.length = F at *
  generalize spM zs lv zs.length = M at *
  generalize abN zs lv zs.length = A at *
  go_wp2_with fail
  refine HQS.out.mono ?_
  rintro e w2 ⟨rfl, rfl⟩
  go_wp2_with fail
  go_loopw [9, 10] (fun n i wr => ∃ k : Nat, k ≤ zs.length ∧ i = .int .i64 k ∧ n = .int .i64 (spR zs lv k : Int) ∧ Keep w1 wr) (fun _ i _ => zs.length - (intOf i).toNat)
  case atStart => exact ⟨0, by omega, rfl, rfl, Keep.refl _⟩
  case round =>
    obtain ⟨k, hk, rfl, rfl, hK⟩ := hrel
    by_cases hlt : k < zs.length
    · obtain ⟨b, off, rfl, hb, hc⟩ := (hL1.keep hK).at_ hlt
      have hrl := spR_le zs lv k
      have hm1 := HMO.out (k + 1) (by omega)
      have hm2 := HRM.out (k + 1)
      rcases reB_cases lv (zs.getD k 0) with ⟨hx, hr⟩ | ⟨h1, h2, h3, hr⟩ | ⟨h1, h2, h3, hr⟩
      · have HS := Lib.hid (spR_no hr).1
        rw [hx] at hc
        clear hx hr hm1 hm2
        generalize spR zs lv k = r at hrl
        have d1 : decide ((M : Int) < 0) = false := decide_eq_false (by omega)
        go_wp2_with fail
        all_goals
          go_roundw
          case rel => exact ⟨k + 1, by omega, by go_num, by rw [HS.out]; first | rfl | (congr 1; omega), hK⟩
          case measure => simp [intOf]; omega
      · have HS := Lib.hid (spR_no hr).1
        clear hr hm1 hm2
        generalize zs.getD k 0 = x at hc h1 h2 h3
        generalize spR zs lv k = r at hrl
        have d1 : decide ((M : Int) < 0) = false := decide_eq_false (by omega)
        have d2 : decide (x < lv) = true := decide_eq_true h3
        go_wp2_with fail
        all_goals
          go_roundw
          case rel => exact ⟨k + 1, by omega, by go_num, by rw [HS.out]; first | rfl | (congr 1; omega), hK⟩
          case measure => simp [intOf]; omega
      · have HS := Lib.hid (spR_yes hr)
        have hf := HFI.out (k + 1) (by omega)
        rw [HS.out] at hf hm2
        clear hr
        generalize zs.getD k 0 = x at hc h1 h2 h3
        generalize spM zs lv (k + 1) = m at hm1 hm2
        generalize spR zs lv k = r at *
        have d1 : decide ((M : Int) < (r : Int) + 1) = false := decide_eq_false (by omega)
        have d2 : decide (x < lv) = false := decide_eq_false (by omega)
        by_cases e : r + 1 = M
        · have g1 := hf e (by omega)
          have d3 : ((r : Int) + 1 == (M : Int)) = true := beq_iff_eq.2 (by omega)
          have d4 : decide ((k : Int) + 1 - ((r : Int) + 1) < (F : Int)) = false := decide_eq_false (by omega)
          have d5 : decide (0 < (r : Int) + 1) = true := decide_eq_true (by omega)
          go_wp2_with fail
          go_roundw
          case rel => exact ⟨k + 1, by omega, by go_num, by rw [HS.out]; go_num, hK⟩
          case measure => simp [intOf]; omega
        · have d3 : ((r : Int) + 1 == (M : Int)) = false := beq_eq_false_iff_ne.2 (by omega)
          go_wp2_with fail
          go_roundw
          case rel => exact ⟨k + 1, by omega, by go_num, by rw [HS.out]; go_num, hK⟩
          case measure => simp [intOf]; omega
    · obtain rfl : k = zs.length := by omega
      have d1 : decide ((M : Int) ≤ (A : Int)) = true := decide_eq_true (by omega)
      by_cases h0 : M = 0
      · have g0 := HZ0.out h0
        subst h0
        subst g0
        go_wp2_with fail
        refine (HAB.out _ hK).mono ?_
        rintro e w5 ⟨rfl, rfl⟩
        go_wp2
        go_ret
        exact ⟨rfl, K1.trans hK⟩
      · have d2 : decide (0 < (M : Int)) = true := decide_eq_true (by omega)
        go_wp2_with fail
        refine (HAB.out _ hK).mono ?_
        rintro e w5 ⟨rfl, rfl⟩
        go_wp2
        go_ret
        exact ⟨rfl, K1.trans hK⟩
end Go.Proofs.Ytmndlghadgccbae
