/- P56: the order has no influence on a median. -/
import Derived.Test.YtaghgapkjdkkfabDrSq
import Derived.Test.YtaghgapkjdkkfabMd
import Derived.Test.YtaghgapkjdkkfabLw
import Derived.Test.YtaghgapkjdkkfabFr
namespace Go.Proofs.Ytaghgapkjdkkfab
open Go.RowKit
set_option linter.unusedVariables false

theorem mo_range {zs : List Int} (h : moB zs = true) : -999 ≤ moV zs ∧ moV zs ≤ 10999 := by
  obtain ⟨hq, h0⟩ := moB_facts h
  rw [moV_yes h]
  have hm := mdL_mem h0
  rw [knl, List.mem_filter] at hm
  have := List.all_eq_true.1 (sq_facts hq).1 _ hm.1
  have h2 : mdL (knl zs) ≠ -9999 := by have := hm.2; exact bne_iff_ne.1 this
  rcases qB_bd this with h | h
  · exact absurd h h2
  · exact h
set_option maxRecDepth 100000 in
set_option maxHeartbeats 6400000 in
theorem walk_FnMedianTurned (a0 : Option Addr) (len0 cap0 : Nat) (z0 : List Int) (w : World) (w0 : IsRow .u8 w a0 len0 cap0 z0) :
    Calls Try.prog 7 #[.slice a0 len0 cap0] w fun e w' => e = .returned (.bool true) ∧ Below w.heap.size w w' := by
  have ha := code_of_row w0
  obtain ⟨hl0, hm0⟩ := ha.1
  unfold maxLen at hm0
  clear w0
  by_cases h : len0 ≤ 1048576
  case' neg =>
    have hd : decide (1048576 < (len0 : Int)) = true := by simp; omega
    go_enter Try.func7, Try.ntmps7
    go_wp2
    go_ret
    exact ⟨rfl, Below.refl _ _⟩
  have hd : decide (1048576 < (len0 : Int)) = false := by simp; omega
  go_enter Try.func7, Try.ntmps7
  go_wp2_with fail
  refine (drawMedianOf a0 len0 cap0 _ ha).mono ?_
  rintro e w1 ⟨a, c, zs, rfl, hl13, hcap, hB, hL1, k1⟩
  have HB := Lib.hid hB
  clear ha hB
  go_wp2_with fail
  refine (mo_impl a c zs _ hL1 (by omega)).mono ?_
  rintro e w2 ⟨rfl, k2⟩
  go_wp2_with fail
  refine (mo_spec a c zs _ (hL1.keep k2) (by omega)).mono ?_
  rintro e w3 ⟨rfl, k3⟩
  have K3 : Keep w w3 := (k1.trans k2).trans k3
  have hL := (hL1.keep k2).keep k3
  clear hL1 k1 k2 k3
  rcases Bool.eq_false_or_eq_true (moB zs) with hs | hs
  case' inr =>
    generalize moV zs = v at *
    rw [hs]
    go_wp2
    go_ret
    exact ⟨rfl, K3⟩
  obtain ⟨hq, h0⟩ := moB_facts hs
  have HS := Lib.hid hs
  have HV := Lib.hid (moV_yes hs)
  have HQ := Lib.hid hq
  rw [hs]
  clear hs hq
  obtain ⟨v, hv⟩ : ∃ v, moV zs = v := ⟨_, rfl⟩
  have HR : Hid (moB zs.reverse = true ∧ moV zs.reverse = v) := Lib.hid ⟨(mo_back zs).1.trans HS.out, (mo_back zs).2.trans hv⟩
  have HA : Hid (moB (zs.map add1) = true → moV (zs.map add1) = v + 1) := Lib.hid (fun h => (mo_add HS.out h).trans (by rw [hv]))
  have HX : -999 ≤ v ∧ v ≤ 10999 := by rw [← hv]; exact mo_range HS.out
  obtain ⟨x0, x1⟩ := HX
  rw [hv]
  clear hv HV
  go_wp2_with fail
  refine (back_any a c zs _ hL (by omega)).mono ?_
  rintro e w4 ⟨g4, c4, rfl, hc4, hW4, hg4, hl4, k4⟩
  have K4 : Keep w w4 := K3.trans k4
  have HB4 := Lib.hid (mo_impl (some ⟨g4, 0, none⟩) c4 zs.reverse w4 hW4.ls (by rw [List.length_reverse]; omega))
  rw [HR.out.1, HR.out.2, List.length_reverse] at HB4
  rw [List.length_reverse]
  go_wp2_with fail
  refine HB4.out.mono ?_
  rintro e w5 ⟨rfl, k5⟩
  have K5 : Keep w w5 := K4.trans k5
  have hL5 := (hL.keep k4).keep k5
  clear HB4
  go_wp2_with fail
  refine (added_any a c zs _ hL5 HB.out (by omega)).mono ?_
  rintro e w6 ⟨g6, c6, rfl, hc6, hW6, hg6, hl6, k6⟩
  have K6 : Keep w w6 := K5.trans k6
  have HB6 := Lib.hid (mo_impl (some ⟨g6, 0, none⟩) c6 (zs.map add1) w6 hW6.ls (by rw [List.length_map]; omega))
  rw [List.length_map] at HB6
  rw [List.length_map]
  rcases Bool.eq_false_or_eq_true (moB (zs.map add1)) with h2 | h2
  · rw [h2, HA.out h2] at HB6
    clear h2 HA
    go_wp2_with fail
    refine HB6.out.mono ?_
    rintro e w7 ⟨rfl, k7⟩
    go_wp2
    go_ret
    exact ⟨rfl, K6.trans k7⟩
  · rw [h2] at HB6
    generalize moV (zs.map add1) = y at HB6
    clear h2 HA
    go_wp2_with fail
    refine HB6.out.mono ?_
    rintro e w7 ⟨rfl, k7⟩
    go_wp2
    go_ret
    exact ⟨rfl, K6.trans k7⟩
end Go.Proofs.Ytaghgapkjdkkfab
