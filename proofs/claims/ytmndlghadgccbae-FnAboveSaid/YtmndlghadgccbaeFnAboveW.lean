/- P94: values are above or below. -/
import Derived.Test.YtmndlghadgccbaeDrEx
import Derived.Test.YtmndlghadgccbaeEa
import Derived.Test.YtmndlghadgccbaeLw
import Derived.Test.YtmndlghadgccbaeFr
import Derived.LoopTactic
import Derived.IntWalk
namespace Go.Proofs.Ytmndlghadgccbae
open Go.RowKit
set_option linter.unusedVariables false

theorem cLt_take2 {L : List Int} {q : Nat} (h : q < L.length) (x : Int) : cLt (L.take (q + 1)) x = cLt (L.take q) x + (if L.getD q 0 < x then 1 else 0) := by
  rw [List.take_succ_eq_append_getElem h, cLt, cLt, List.countP_append]
  simp [List.getD_eq_getElem?_getD, h, List.countP_cons]
set_option maxRecDepth 100000 in
set_option maxHeartbeats 6400000 in
theorem walk_FnAbove (a0 : Option Addr) (len0 cap0 : Nat) (z0 : List Int) (w : World) (w0 : IsRow .u8 w a0 len0 cap0 z0) :
    Calls Try.prog 7 #[.slice a0 len0 cap0] w fun e w' => e = .returned (.bool true) ∧ Below w.heap.size w w' := by
  have ha := code_of_row w0
  obtain ⟨hl0, hm0⟩ := ha.1
  unfold maxLen at hm0
  clear w0
  by_cases h : len0 ≤ 1048576
  case' neg =>
    have hd : decide (1048576 < (len0 : Int)) = true := by simp; omega
    go_enter Try.func7, Try.ntmps7
    go_wp2
    go_ret
    exact ⟨rfl, Below.refl _ _⟩
  have hd : decide (1048576 < (len0 : Int)) = false := by simp; omega
  go_enter Try.func7, Try.ntmps7
  go_wp2_with fail
  refine (drawAboveOf a0 len0 cap0 _ ha).mono ?_
  rintro e w1 ⟨a, c, zs, lv, rfl, hl13, hcap, hB, hL1, ⟨lv0, lv1⟩, k1⟩
  have K1 : Keep w w1 := k1
  clear ha hB k1
  go_wp2_with fail
  refine (ab_impl a c zs lv _ hL1 (by omega)).mono ?_
  rintro e w2 ⟨rfl, rfl⟩
  go_wp2_with fail
  refine (ab_spec a c zs lv _ hL1 (by omega)).mono ?_
  rintro e w2 ⟨rfl, rfl⟩
  rcases Bool.eq_false_or_eq_true (sqB zs) with hs | hs
  case' inr =>
    rw [abV_no lv hs]
    go_wp2
    go_ret
    exact ⟨rfl, K1⟩
  have HP := Lib.hid (ab_parts zs lv)
  have hab := abN_le zs lv zs.length
  have hsk : sk zs = ((knl zs).length : Int) := by rw [sk_yes hs, knN_all zs]
  have HSK := Lib.hid (fun W (k : Keep w1 W) => sk_impl a c zs W (hL1.keep k) (by omega))
  rw [hsk] at HSK
  rw [abV_yes lv hs]
  have HK := Lib.hid (known_any a c zs w1 hL1 (by omega))
  have hle : (knl zs).length ≤ 13 := by have : (knl zs).length ≤ zs.length := List.length_filter_le _ _; omega
  clear hs hsk
  generalize abN zs lv zs.length = m at *
  go_wp2_with fail
  refine HK.out.mono ?_
  rintro e w4 ⟨g4, c4, rfl, hc4, hW4, hg4, hl4, k4⟩
  clear HK
  generalize knl zs = L at *
  go_wp2_with fail
  go_loopw [7, 9] (fun p i wr => ∃ u n1 : Nat, u ≤ L.length ∧ n1 ≤ u ∧ p = .int .i64 n1 ∧ i = .int .i64 u ∧ Hid (cLt (L.take u) lv = n1) ∧ Keep w4 wr) (fun _ i _ => L.length - (intOf i).toNat)
  case atStart => exact ⟨0, 0, by omega, by omega, rfl, rfl, Lib.hid (by simp [cLt]), Keep.refl _⟩
  case round =>
    obtain ⟨u, n1, hu, hn1, rfl, rfl, H1, hK2⟩ := hrel
    by_cases hul : u < L.length
    · obtain ⟨bz, oz, hae, hbz, du⟩ := (hW4.keep hK2).ls.at_ hul
      injection hae with hae
      injection hae with e1 e2 _
      subst e1; subst e2
      rw [Nat.zero_add] at du
      have T1 := Lib.hid (cLt_take2 hul lv)
      rw [H1.out] at T1
      generalize L.getD u 0 = y at du T1
      by_cases q1 : y < lv
      · have HT1 : Hid (cLt (L.take (u + 1)) lv = n1 + 1) := Lib.hid (by rw [T1.out, if_pos q1])
        clear T1
        go_wp2
        go_roundw
        case rel => exact ⟨u + 1, n1 + 1, by omega, by omega, by go_num, by go_num, HT1, hK2⟩
        case measure => simp [intOf]; omega
      · have HT1 : Hid (cLt (L.take (u + 1)) lv = n1) := Lib.hid (by rw [T1.out, if_neg q1, Nat.add_zero])
        clear T1
        go_wp2
        go_roundw
        case rel => exact ⟨u + 1, n1, by omega, by omega, rfl, by go_num, HT1, hK2⟩
        case measure => simp [intOf]; omega
    · obtain rfl : u = L.length := by omega
      rw [List.take_length] at H1
      rw [H1.out] at HP
      have hP := HP.out
      have hq : (((m : Int) + (n1 : Int)) == (L.length : Int)) = true := beq_iff_eq.2 (by omega)
      clear hP
      go_wp2_with fail
      refine (HSK.out _ (k4.trans hK2)).mono ?_
      rintro e w5 ⟨rfl, rfl⟩
      go_wp2
      go_ret
      exact ⟨rfl, (K1.trans k4).trans hK2⟩
end Go.Proofs.Ytmndlghadgccbae
