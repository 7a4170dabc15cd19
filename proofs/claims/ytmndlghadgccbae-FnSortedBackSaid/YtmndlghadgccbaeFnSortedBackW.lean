/- P91: each value is as often in the sorted values as in the series; the direction does not matter. -/
import Derived.Test.YtmndlghadgccbaeDrEx
import Derived.Test.YtmndlghadgccbaeSos
import Derived.Test.YtmndlghadgccbaeSu
import Derived.Test.YtmndlghadgccbaeFr
namespace Go.Proofs.Ytmndlghadgccbae
open Go.RowKit
set_option linter.unusedVariables false

theorem cEq_takeB {L : List Int} {q : Nat} (h : q < L.length) (x : Int) : cEq (L.take (q + 1)) x = cEq (L.take q) x + (if L.getD q 0 = x then 1 else 0) := by
  rw [List.take_succ_eq_append_getElem h, cEq, cEq, List.countP_append]
  simp [List.getD_eq_getElem?_getD, h, List.countP_cons]
def aC (zs : List Int) (x : Int) (u : Nat) : Nat := if x = -9999 then 0 else cEq (zs.take u) x
theorem aC_yes {zs : List Int} {x : Int} {u : Nat} (h : u < zs.length) (e : zs.getD u 0 = x) (hx : x ≠ -9999) : aC zs x (u + 1) = aC zs x u + 1 := by
  rw [aC, aC, if_neg hx, if_neg hx, cEq_takeB h, if_pos e]
theorem aC_no {zs : List Int} {x : Int} {u : Nat} (h : u < zs.length) (e : ¬ (zs.getD u 0 = x ∧ x ≠ -9999)) : aC zs x (u + 1) = aC zs x u := by
  rw [aC, aC]
  by_cases hx : x = -9999
  · rw [if_pos hx, if_pos hx]
  · rw [if_neg hx, if_neg hx, cEq_takeB h, if_neg (fun e2 => e ⟨e2, hx⟩), Nat.add_zero]
theorem aC_le (zs : List Int) (x : Int) (u : Nat) : aC zs x u ≤ u := by
  rw [aC]; split
  · omega
  · exact Nat.le_trans List.countP_le_length (by rw [List.length_take]; omega)
theorem cEq_le (L : List Int) (x : Int) (u : Nat) : cEq (L.take u) x ≤ u := Nat.le_trans List.countP_le_length (by rw [List.length_take]; omega)
theorem aC_all {zs : List Int} (h : sqB zs = true) (x : Int) : aC zs x zs.length = cEq ((soL zs).take (soL zs).length) x := by
  rw [List.take_length, soL_yes h, aC, List.take_length]
  have e : cEq (sorted (knl zs)) x = cEq (knl zs) x := (sorted_perm _).countP_eq _
  rw [e, knl]
  by_cases hx : x = -9999
  · rw [if_pos hx, cEq, List.countP_filter]
    symm
    rw [List.countP_eq_zero]
    intro y _
    simp [hx]
  · rw [if_neg hx, cEq, cEq, List.countP_filter]
    refine List.countP_congr fun y _ => ?_
    simp only [Bool.and_eq_true, decide_eq_true_eq]
    constructor
    · intro e; refine ⟨e, ?_⟩; rw [e]; simpa using hx
    · intro e; exact e.1
set_option maxRecDepth 100000 in
set_option maxHeartbeats 6400000 in
theorem walk_FnSortedBack (a0 : Option Addr) (len0 cap0 : Nat) (z0 : List Int) (w : World) (w0 : IsRow .u8 w a0 len0 cap0 z0) :
    Calls Try.prog 4 #[.slice a0 len0 cap0] w fun e w' => e = .returned (.bool true) ∧ Below w.heap.size w w' := by
  have ha := code_of_row w0
  obtain ⟨hl0, hm0⟩ := ha.1
  unfold maxLen at hm0
  clear w0
  by_cases h : len0 ≤ 1048576
  case' neg =>
    have hd : decide (1048576 < (len0 : Int)) = true := by simp; omega
    go_enter Try.func4, Try.ntmps4
    go_wp2
    go_ret
    exact ⟨rfl, Below.refl _ _⟩
  have hd : decide (1048576 < (len0 : Int)) = false := by simp; omega
  go_enter Try.func4, Try.ntmps4
  go_wp2_with fail
  refine (drawSortedOf a0 len0 cap0 _ ha).mono ?_
  rintro e w1 ⟨a, c, zs, rfl, hl13, hcap, hB, hL1, k1⟩
  clear ha hB
  go_wp2_with fail
  refine (so_impl a c zs _ hL1 (by omega)).mono ?_
  rintro e w2 ⟨x2, c2, rfl, hc2, hF2, k2⟩
  go_wp2_with fail
  refine (so_spec a c zs _ (hL1.keep k2) (by omega)).mono ?_
  rintro e w3 ⟨x3, c3, rfl, hc3, hF3, k3⟩
  have hr12 := soL_len zs
  go_wp2_with fail
  refine (sI_eq x2 x3 _ _ (soL zs) _ (hF2.ls.keep k3) hF3.ls (by omega)).mono ?_
  rintro e w4 ⟨rfl, k4⟩
  have HO := Lib.hid ((hF2.ls.keep k3).keep k4)
  have HL := Lib.hid (((hL1.keep k2).keep k3).keep k4)
  have K4 : Keep w w4 := ((k1.trans k2).trans k3).trans k4
  have HQS := Lib.hid (sqv_spec a c zs w4 HL.out (by omega))
  have HO3 := Lib.hid (hF3.ls.keep k4)
  clear hF2 hF3 hL1 k1 k2 k3 k4
  rcases Bool.eq_false_or_eq_true (sqB zs) with hs | hs
  case' inr =>
    rw [hs] at HQS
    go_wp2_with fail
    refine HQS.out.mono ?_
    rintro e w5 ⟨rfl, rfl⟩
    go_wp2_with fail
    refine (sI_eq x2 x3 _ _ (soL zs) _ HO.out HO3.out (by omega)).mono ?_
    rintro e w5 ⟨rfl, k5⟩
    go_wp2
    go_ret
    exact ⟨rfl, K4.trans k5⟩
  rw [hs] at HQS
  have HAll : Hid (∀ x, aC zs x zs.length = cEq ((soL zs).take (soL zs).length) x) := Lib.hid (aC_all hs)
  have HBack : Hid (soL zs.reverse = soL zs) := Lib.hid (soL_back zs)
  clear hs
  generalize soL zs = S at *
  go_wp2_with fail
  refine HQS.out.mono ?_
  rintro e w5 ⟨rfl, rfl⟩
  go_wp2_with fail
  go_loopw [6] (fun i wr => ∃ k : Nat, k ≤ zs.length ∧ i = .int .i64 k ∧ Keep w4 wr) (fun i _ => zs.length - (intOf i).toNat)
  case atStart => exact ⟨0, by omega, rfl, Keep.refl _⟩
  case round =>
    obtain ⟨k, hk, rfl, hK⟩ := hrel
    by_cases hlt : k < zs.length
    · obtain ⟨b, off, rfl, hb, hcz⟩ := (HL.out.keep hK).all (by omega)
      have HC := Lib.hid hcz
      have hck := hcz k hlt
      obtain ⟨x, hx⟩ : ∃ x, zs.getD k 0 = x := ⟨_, rfl⟩
      rw [hx] at hck
      clear hcz hx
      have k0 : (0 : Int) ≤ (k : Int) := by omega
      have kz : (k : Int) < (zs.length : Int) := by omega
      have HOk := Lib.hid (HO.out.keep hK)
      go_wp2_with fail
      go_loopw [7, 9] (fun p i wr2 => ∃ u : Nat, u ≤ zs.length ∧ i = .int .i64 u ∧ p = .int .i64 (aC zs x u : Nat) ∧ Keep wr wr2) (fun _ i _ => zs.length - (intOf i).toNat)
      case atStart => exact ⟨0, by omega, rfl, by simp [aC, cEq], Keep.refl _⟩
      case round =>
        obtain ⟨u, hu, rfl, rfl, hK2⟩ := hrel
        have ck := hK2.cell hck
        by_cases hul : u < zs.length
        · have cu := hK2.cell (HC.out u hul)
          have HY := Lib.hid (fun e hx => aC_yes (x := x) hul e hx)
          have HN := Lib.hid (fun e => aC_no (x := x) hul e)
          have hle := aC_le zs x u
          generalize aC zs x u = n at *
          obtain ⟨y, hy⟩ : ∃ y, zs.getD u 0 = y := ⟨_, rfl⟩
          rw [hy] at cu HY HN
          clear hy
          have u0 : (0 : Int) ≤ (u : Int) := by omega
          have uz : (u : Int) < (zs.length : Int) := by omega
          by_cases hyx : y = x
          · by_cases hx : x = -9999
            · have HT := Lib.hid (HN.out (fun e => e.2 hx))
              subst hyx
              subst hx
              clear HY HN
              go_wp2_with fail
              go_quiet (fail)
              go_wp2
              go_roundw
              case rel => exact ⟨u + 1, by omega, by go_num, by rw [HT.out], hK2.drewN _⟩
              case measure => simp [intOf]; omega
            · have HT := Lib.hid (HY.out hyx hx)
              have hx2 : (x == -9999) = false := beq_eq_false_iff_ne.2 hx
              subst hyx
              clear HY HN hx
              go_wp2_with fail
              go_quiet (fail)
              go_wp2
              go_roundw
              case rel => exact ⟨u + 1, by omega, by go_num, by rw [HT.out]; go_num, hK2.drewN _⟩
              case measure => simp [intOf]; omega
          · have HT := Lib.hid (HN.out (fun e => hyx e.1))
            have hyx2 : (y == x) = false := beq_eq_false_iff_ne.2 hyx
            clear HY HN hyx
            go_wp2_with fail
            go_quiet (fail)
            go_wp2
            go_roundw
            case rel => exact ⟨u + 1, by omega, by go_num, by rw [HT.out], hK2.drewN _⟩
            case measure => simp [intOf]; omega
        · obtain rfl : u = zs.length := by omega
          have HA := Lib.hid (HAll.out x)
          rw [HA.out]
          have HTot := Lib.hid (rfl : cEq (S.take S.length) x = cEq (S.take S.length) x)
          obtain ⟨tot, htot⟩ : ∃ tot, cEq (S.take S.length) x = tot := ⟨_, rfl⟩
          rw [htot]
          have HTt := Lib.hid htot
          clear htot HTot HA
          have HOs := Lib.hid (HOk.out.keep hK2)
          go_wp2_with fail
          go_loopw [8, 10] (fun p i wr3 => ∃ u : Nat, u ≤ S.length ∧ i = .int .i64 u ∧ p = .int .i64 (cEq (S.take u) x : Nat) ∧ Keep wr wr3) (fun _ i _ => S.length - (intOf i).toNat)
          case atStart => exact ⟨0, by omega, rfl, by simp [cEq], Keep.refl _⟩
          case round =>
            obtain ⟨u, hu, rfl, rfl, hK3⟩ := hrel
            have ck3 := hK3.cell ck
            by_cases hul : u < S.length
            · obtain ⟨bs, os, rfl, hbs, cu⟩ := (HOs.out.keep hK3).at_ hul
              have HT := Lib.hid (cEq_takeB hul x)
              have hle := cEq_le S x u
              generalize cEq (S.take u) x = n at *
              generalize S.getD u 0 = y at cu HT
              have u0 : (0 : Int) ≤ (u : Int) := by omega
              have uz : (u : Int) < (S.length : Int) := by omega
              by_cases hyx : y = x
              · replace HT : Hid (cEq (S.take (u + 1)) x = n + 1) := Lib.hid (by rw [HT.out, if_pos hyx])
                subst hyx
                go_wp2_with fail
                go_quiet (fail)
                go_wp2
                go_roundw
                case rel => exact ⟨u + 1, by omega, by go_num, by rw [HT.out]; go_num, hK3.drewN _⟩
                case measure => simp [intOf]; omega
              · replace HT : Hid (cEq (S.take (u + 1)) x = n) := Lib.hid (by rw [HT.out, if_neg hyx, Nat.add_zero])
                have hyx2 : (y == x) = false := beq_eq_false_iff_ne.2 hyx
                clear hyx
                go_wp2_with fail
                go_quiet (fail)
                go_wp2
                go_roundw
                case rel => exact ⟨u + 1, by omega, by go_num, by rw [HT.out], hK3.drewN _⟩
                case measure => simp [intOf]; omega
            · obtain rfl : u = S.length := by omega
              rw [HTt.out]
              go_wp2
              go_roundw
              case rel => exact ⟨k + 1, by omega, by go_num, (hK.trans hK2).trans hK3⟩
              case measure => simp [intOf]; omega
    · obtain rfl : k = zs.length := by omega
      go_wp2_with fail
      refine (back_any a c zs _ (HL.out.keep hK) (by omega)).mono ?_
      rintro e w6 ⟨g6, c6, rfl, hc6, hW6, hg6, hl6, k6⟩
      have HS6 := Lib.hid (so_impl (some ⟨g6, 0, none⟩) c6 zs.reverse w6 hW6.ls (by rw [List.length_reverse]; omega))
      rw [HBack.out, List.length_reverse] at HS6
      rw [List.length_reverse]
      go_wp2_with fail
      refine HS6.out.mono ?_
      rintro e w7 ⟨x7, c7, rfl, hc7, hF7, k7⟩
      go_wp2_with fail
      refine (sI_eq x7 x2 _ _ S _ hF7.ls (((HO.out.keep hK).keep k6).keep k7) (by omega)).mono ?_
      rintro e w8 ⟨rfl, k8⟩
      go_wp2
      go_ret
      exact ⟨rfl, (((K4.trans hK).trans k6).trans k7).trans k8⟩
end Go.Proofs.Ytmndlghadgccbae
