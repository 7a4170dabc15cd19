/- P40: a change is a report with another value. -/
import Derived.Test.YtkapnbfjpglblabDrSa
import Derived.Test.YtkapnbfjpglblabSg
import Derived.Test.YtkapnbfjpglblabFr
import Derived.Deep.RegionHeld3
namespace Go.Proofs.Ytkapnbfjpglblab
open Go.RowKit
set_option linter.unusedVariables false

theorem mem_scN (rs : List R4) (i : Nat) : ∀ m, (i : Int) ∈ scN rs m ↔ i < m ∧ chB rs i = true
  | 0 => by simp [scN]
  | m + 1 => by
    have ih := mem_scN rs i m
    unfold scN
    by_cases h : chB rs m = true
    · rw [if_pos h, List.mem_append, ih]
      constructor
      · rintro (h1 | h1)
        · exact ⟨by omega, h1.2⟩
        · have e : i = m := by have h2 := List.mem_singleton.1 h1; omega
          subst e
          exact ⟨by omega, h⟩
      · rintro ⟨h1, h2⟩
        by_cases e : i = m
        · subst e; exact .inr (by simp)
        · exact .inl ⟨by omega, h2⟩
    · rw [if_neg h, ih]
      constructor
      · rintro ⟨h1, h2⟩; exact ⟨by omega, h2⟩
      · rintro ⟨h1, h2⟩
        by_cases e : i = m
        · subst e; exact absurd h2 h
        · exact ⟨by omega, h2⟩
set_option maxHeartbeats 1000000 in
theorem hasI_any (a : Option Addr) (c : Nat) (zs : List Int) (n : Int) (w : World) (h : Ls w a zs) (hm : zs.length ≤ 1048576) :
    Calls Try.prog 34 #[.slice a zs.length c, .int .i64 n] w fun e w' => e = .returned (.bool (decide (n ∈ zs))) ∧ w = w' := by
  go_enter Try.func34, Try.ntmps34
  go_wp2_with fail
  go_loop [5] (fun i => ∃ k : Nat, k ≤ zs.length ∧ i = .int .i64 k ∧ Hid (n ∉ zs.take k)) (fun i => zs.length - (intOf i).toNat)
  case atStart => exact ⟨0, by omega, rfl, Lib.hid (by simp)⟩
  case round =>
    obtain ⟨k, hk, rfl, HN⟩ := hrel
    by_cases hlt : k < zs.length
    · obtain ⟨b, off, rfl, hb, c0⟩ := h.at_ hlt
      have ht : zs.take (k + 1) = zs.take k ++ [zs.getD k 0] := by
        rw [List.take_add_one]; simp [List.getD_eq_getElem?_getD, hlt]
      have hin : zs.getD k 0 ∈ zs := by simp [List.getD_eq_getElem?_getD, hlt]
      by_cases hx : zs.getD k 0 = n
      · have HM : Hid (true = decide (n ∈ zs)) := Lib.hid (by rw [← hx]; exact (decide_eq_true hin).symm)
        generalize zs.getD k 0 = x at c0 hx
        subst hx
        clear ht hin
        go_wp2
        go_ret
        exact ⟨retB HM.out, rfl⟩
      · have HN2 : Hid (n ∉ zs.take (k + 1)) := Lib.hid (by
          rw [ht, List.mem_append]
          rintro (h1 | h1)
          · exact HN.out h1
          · exact hx (List.mem_singleton.1 h1).symm)
        generalize zs.getD k 0 = x at c0 hx
        have hx1 : (x == n) = false := by simpa using hx
        clear ht hin
        go_wp2
        go_round
        case rel => exact ⟨k + 1, by omega, by go_num, HN2⟩
        case measure => simp [intOf]; omega
    · have HM : Hid (false = decide (n ∈ zs)) := Lib.hid (by
        have h1 := HN.out
        rw [List.take_of_length_le (by omega)] at h1
        exact (decide_eq_false h1).symm)
      obtain rfl : k = zs.length := by omega
      go_wp2
      go_ret
      exact ⟨retB HM.out, rfl⟩

set_option maxRecDepth 100000 in
set_option maxHeartbeats 3200000 in
theorem walk_FnStoreChanges (a0 : Option Addr) (len0 cap0 : Nat) (z0 : List Int) (w : World) (w0 : IsRow .u8 w a0 len0 cap0 z0) :
    Calls Try.prog 9 #[.slice a0 len0 cap0] w fun e w' => e = .returned (.bool true) ∧ Below w.heap.size w w' := by
  have ha := code_of_row w0
  obtain ⟨hl0, hm0⟩ := ha.1
  unfold maxLen at hm0
  clear w0
  by_cases h : len0 ≤ 1048576
  case' neg =>
    have hd : decide (1048576 < (len0 : Int)) = true := by simp; omega
    go_enter Try.func9, Try.ntmps9
    go_wp2
    go_ret
    exact ⟨rfl, Below.refl _ _⟩
  have hd : decide (1048576 < (len0 : Int)) = false := by simp; omega
  go_enter Try.func9, Try.ntmps9
  go_wp2_with fail
  refine (drawStoreChanges a0 len0 cap0 _ ha).mono ?_
  rintro e w1 ⟨g, c, rs, rfl, hl, hcl, hF, k1⟩
  have hL1 := hF.rs
  have hz := scL_len rs
  clear ha hF
  go_wp2_with fail
  refine (sc_impl _ c rs _ hL1 (by omega)).mono ?_
  rintro e w2 ⟨p, q, rfl, hF2, k2⟩
  go_wp2_with fail
  refine (sc_spec _ c rs _ (hL1.keep k2) (by omega) hcl).mono ?_
  rintro e w3 ⟨p3, q3, rfl, hF3, k3⟩
  have kk : Keep w w3 := (k1.trans k2).trans k3
  have hL := (hL1.keep k2).keep k3
  have hO := hF2.ls.keep k3
  have hW := hF3.ls
  clear hF2 hF3 hL1
  go_wp2_with fail
  refine (sI_same p p3 q q3 (scL rs) _ hO hW (by omega)).mono ?_
  rintro e w5 ⟨rfl, k5⟩
  rcases Bool.eq_false_or_eq_true (stB rs) with hs | hs
  case' inr =>
    replace hs := Lib.hid hs
    go_wp2_with fail
    refine (sv_spec _ c rs _ (hL.keep k5) (by omega)).mono ?_
    rintro e w6 ⟨he, k6⟩
    rw [hs.out] at he
    subst he
    go_wp2_with fail
    refine (sI_same p p3 q q3 (scL rs) _ ((hO.keep k5).keep k6) ((hW.keep k5).keep k6) (by omega)).mono ?_
    rintro e w7 ⟨rfl, k7⟩
    go_wp2
    go_ret
    exact ⟨rfl, ((kk.trans k5).trans k6).trans k7⟩
  replace hs := Lib.hid hs
  go_wp2_with fail
  refine (sv_spec _ c rs _ (hL.keep k5) (by omega)).mono ?_
  rintro e w4 ⟨he, k6⟩
  rw [hs.out] at he
  subst he
  have L4 := Lib.hid ((hL.keep k5).keep k6)
  have O4 := Lib.hid ((hO.keep k5).keep k6)
  have K4 : Keep w w4 := (kk.trans k5).trans k6
  have hle : (scL rs).length ≤ rs.length := by rw [scL_yes hs.out]; exact scN_len rs _
  clear hL hO hW k1 k2 k3 k5 k6 kk
  go_wp2_with fail
  go_loopw [6] (fun i wr => ∃ k : Nat, k ≤ rs.length ∧ i = .int .i64 k ∧ Keep w4 wr) (fun i _ => rs.length - (intOf i).toNat)
  case atStart => exact ⟨0, by omega, rfl, Keep.refl _⟩
  case round =>
    obtain ⟨k, hk, rfl, hKr⟩ := hrel
    by_cases hlt : k < rs.length
    · have hLr := L4.out.keep hKr
      obtain ⟨b, off, hbo, hb, ⟨c0, c1, c2, c3⟩⟩ := hLr.at_ hlt
      injection hbo with hbo
      injection hbo with hg0 ho0 _
      subst hg0
      subst ho0
      rw [Nat.zero_add] at c0 c1 c2 c3
      have HCB : Hid (chB rs k = (decide (vN rs (rS (rs.getD k r0)) (rD (rs.getD k r0)) (rK (rs.getD k r0)) k ≠ -9999) && decide (vN rs (rS (rs.getD k r0)) (rD (rs.getD k r0)) (rK (rs.getD k r0)) k ≠ rV (rs.getD k r0)))) := Lib.hid rfl
      have hvr : vrB rs (k : Int) = true := by rw [vrB, hs.out]; simp [inB]; omega
      have hmem : decide ((k : Int) ∈ scL rs) = chB rs k := by
        rw [scL_yes hs.out, Bool.eq_iff_iff, decide_eq_true_eq, mem_scN]
        simp [hlt]
      generalize rS (rs.getD k r0) = x0 at c0 HCB
      generalize rD (rs.getD k r0) = x1 at c1 HCB
      generalize rK (rs.getD k r0) = x2 at c2 HCB
      generalize rV (rs.getD k r0) = x3 at c3 HCB
      have HSV := Lib.hid (svV_yes hvr x0 x1 x2)
      generalize vN rs x0 x1 x2 k = y at HSV HCB
      have hcase : ((y == -9999) = true ∧ chB rs k = false) ∨ ((y == -9999) = false ∧ ((y == x3) = true ∧ (y != x3) = false) ∧ chB rs k = false) ∨ ((y == -9999) = false ∧ ((y == x3) = false ∧ (y != x3) = true) ∧ chB rs k = true) := by
        rw [HCB.out]
        by_cases e0 : y = -9999 <;> by_cases e1 : y = x3 <;> simp [e0, e1] <;> exact Classical.em _
      clear HCB hvr
      rcases hcase with ⟨e0, ey⟩ | ⟨e0, ⟨e1, e2⟩, ey⟩ | ⟨e0, ⟨e1, e2⟩, ey⟩
      · obtain rfl : y = -9999 := by simpa using e0
        clear e0
        skip
        have HM : Hid (decide ((k : Int) ∈ scL rs) = false) := Lib.hid (by rw [← ey]; exact hmem)
        clear ey hmem
        go_wp2_with fail
        go_region_held3 (fun w' => Keep wr w' ∧ w'.cell? ⟨g, k * 4, none⟩ = some (.int .i64 x0) ∧ w'.cell? ⟨g, k * 4 + 1, none⟩ = some (.int .i64 x1) ∧ w'.cell? ⟨g, k * 4 + 2, none⟩ = some (.int .i64 x2) ∧ w'.cell? ⟨g, k * 4 + 3, none⟩ = some (.int .i64 x3))
          ((go_split_ands; refine (fun hK => ⟨hK, hK.cell c0, hK.cell c1, hK.cell c2, hK.cell c3⟩ : Keep wr _ → _) ?_; (repeat' (first | with_reducible assumption | with_reducible exact Keep.refl _ | with_reducible refine Keep.drew ?_ | with_reducible refine Keep.alloc ?_ _ | with_reducible refine Keep.trans ?_ hk))))
          (first
            | (go_at_call 21; go_split_ands; refine (svv_impl (some ⟨g, 0, none⟩) c rs (k : Int) x0 x1 x2 _ (hLr.keep (by (repeat' (first | with_reducible assumption | with_reducible exact Keep.refl _ | with_reducible refine Keep.drew ?_ | with_reducible refine Keep.alloc ?_ _ | with_reducible refine Keep.trans ?_ hk)))) (by omega) (by omega)).mono ?_; rintro e w' ⟨he, hk⟩; rw [HSV.out] at he; subst he; go_split_ands; have hK : Keep wr w' := Keep.trans (by (repeat' (first | with_reducible assumption | with_reducible exact Keep.refl _ | with_reducible refine Keep.drew ?_ | with_reducible refine Keep.alloc ?_ _ | with_reducible refine Keep.trans ?_ hk))) hk))
        all_goals
          go_wp2_with fail
          refine (hasI_any p q (scL rs) (k : Int) _ (O4.out.keep (hKr.trans (by (repeat' (first | with_reducible assumption | with_reducible exact Keep.refl _ | with_reducible refine Keep.drew ?_ | with_reducible refine Keep.alloc ?_ _ | with_reducible refine Keep.trans ?_ hk))))) (by have := scL_len rs; omega)).mono ?_
          rintro e w9 ⟨he, hw9⟩
          rw [HM.out] at he
          subst he
          have kq : Keep wr w9 := by
            rw [← hw9]
            (repeat' (first | with_reducible assumption | with_reducible exact Keep.refl _ | with_reducible refine Keep.drew ?_ | with_reducible refine Keep.alloc ?_ _ | with_reducible refine Keep.trans ?_ hk))
          subst hw9
          have z0 := kq.cell c0
          have z1 := kq.cell c1
          have z2 := kq.cell c2
          have z3 := kq.cell c3
          have kz := hKr.trans kq
          clear kq
          go_wp2
          all_goals first
            | (go_roundw
               case rel => exact ⟨k + 1, by omega, by go_num, kz⟩
               case measure => simp [intOf]; omega
               done)
            | (refine ⟨⟨k + 1, by omega, by go_num, kz⟩, ?_⟩
               simp [intOf]; omega)
            | (exfalso; simp_all; done)
      · have hne : ¬ y = -9999 := by simpa using e0
        have heq : y = x3 := by simpa using e1
        skip
        have HM : Hid (decide ((k : Int) ∈ scL rs) = false) := Lib.hid (by rw [← ey]; exact hmem)
        clear ey hmem
        go_wp2_with fail
        go_region_held3 (fun w' => Keep wr w' ∧ w'.cell? ⟨g, k * 4, none⟩ = some (.int .i64 x0) ∧ w'.cell? ⟨g, k * 4 + 1, none⟩ = some (.int .i64 x1) ∧ w'.cell? ⟨g, k * 4 + 2, none⟩ = some (.int .i64 x2) ∧ w'.cell? ⟨g, k * 4 + 3, none⟩ = some (.int .i64 x3))
          ((go_split_ands; refine (fun hK => ⟨hK, hK.cell c0, hK.cell c1, hK.cell c2, hK.cell c3⟩ : Keep wr _ → _) ?_; (repeat' (first | with_reducible assumption | with_reducible exact Keep.refl _ | with_reducible refine Keep.drew ?_ | with_reducible refine Keep.alloc ?_ _ | with_reducible refine Keep.trans ?_ hk))))
          (first
            | (go_at_call 21; go_split_ands; refine (svv_impl (some ⟨g, 0, none⟩) c rs (k : Int) x0 x1 x2 _ (hLr.keep (by (repeat' (first | with_reducible assumption | with_reducible exact Keep.refl _ | with_reducible refine Keep.drew ?_ | with_reducible refine Keep.alloc ?_ _ | with_reducible refine Keep.trans ?_ hk)))) (by omega) (by omega)).mono ?_; rintro e w' ⟨he, hk⟩; rw [HSV.out] at he; subst he; go_split_ands; have hK : Keep wr w' := Keep.trans (by (repeat' (first | with_reducible assumption | with_reducible exact Keep.refl _ | with_reducible refine Keep.drew ?_ | with_reducible refine Keep.alloc ?_ _ | with_reducible refine Keep.trans ?_ hk))) hk))
        all_goals
          go_wp2_with fail
          refine (hasI_any p q (scL rs) (k : Int) _ (O4.out.keep (hKr.trans (by (repeat' (first | with_reducible assumption | with_reducible exact Keep.refl _ | with_reducible refine Keep.drew ?_ | with_reducible refine Keep.alloc ?_ _ | with_reducible refine Keep.trans ?_ hk))))) (by have := scL_len rs; omega)).mono ?_
          rintro e w9 ⟨he, hw9⟩
          rw [HM.out] at he
          subst he
          have kq : Keep wr w9 := by
            rw [← hw9]
            (repeat' (first | with_reducible assumption | with_reducible exact Keep.refl _ | with_reducible refine Keep.drew ?_ | with_reducible refine Keep.alloc ?_ _ | with_reducible refine Keep.trans ?_ hk))
          subst hw9
          have z0 := kq.cell c0
          have z1 := kq.cell c1
          have z2 := kq.cell c2
          have z3 := kq.cell c3
          have kz := hKr.trans kq
          clear kq
          go_wp2
          all_goals first
            | (go_roundw
               case rel => exact ⟨k + 1, by omega, by go_num, kz⟩
               case measure => simp [intOf]; omega
               done)
            | (refine ⟨⟨k + 1, by omega, by go_num, kz⟩, ?_⟩
               simp [intOf]; omega)
            | (exfalso; simp_all; done)
      · have hne : ¬ y = -9999 := by simpa using e0
        have heq : ¬ y = x3 := by simpa using e1
        have e9 : (y != -9999) = true := by simpa using hne
        skip
        have HM : Hid (decide ((k : Int) ∈ scL rs) = true) := Lib.hid (by rw [← ey]; exact hmem)
        clear ey hmem
        go_wp2_with fail
        go_region_held3 (fun w' => Keep wr w' ∧ w'.cell? ⟨g, k * 4, none⟩ = some (.int .i64 x0) ∧ w'.cell? ⟨g, k * 4 + 1, none⟩ = some (.int .i64 x1) ∧ w'.cell? ⟨g, k * 4 + 2, none⟩ = some (.int .i64 x2) ∧ w'.cell? ⟨g, k * 4 + 3, none⟩ = some (.int .i64 x3))
          ((go_split_ands; refine (fun hK => ⟨hK, hK.cell c0, hK.cell c1, hK.cell c2, hK.cell c3⟩ : Keep wr _ → _) ?_; (repeat' (first | with_reducible assumption | with_reducible exact Keep.refl _ | with_reducible refine Keep.drew ?_ | with_reducible refine Keep.alloc ?_ _ | with_reducible refine Keep.trans ?_ hk))))
          (first
            | (go_at_call 21; go_split_ands; refine (svv_impl (some ⟨g, 0, none⟩) c rs (k : Int) x0 x1 x2 _ (hLr.keep (by (repeat' (first | with_reducible assumption | with_reducible exact Keep.refl _ | with_reducible refine Keep.drew ?_ | with_reducible refine Keep.alloc ?_ _ | with_reducible refine Keep.trans ?_ hk)))) (by omega) (by omega)).mono ?_; rintro e w' ⟨he, hk⟩; rw [HSV.out] at he; subst he; go_split_ands; have hK : Keep wr w' := Keep.trans (by (repeat' (first | with_reducible assumption | with_reducible exact Keep.refl _ | with_reducible refine Keep.drew ?_ | with_reducible refine Keep.alloc ?_ _ | with_reducible refine Keep.trans ?_ hk))) hk))
        all_goals
          go_wp2_with fail
          refine (hasI_any p q (scL rs) (k : Int) _ (O4.out.keep (hKr.trans (by (repeat' (first | with_reducible assumption | with_reducible exact Keep.refl _ | with_reducible refine Keep.drew ?_ | with_reducible refine Keep.alloc ?_ _ | with_reducible refine Keep.trans ?_ hk))))) (by have := scL_len rs; omega)).mono ?_
          rintro e w9 ⟨he, hw9⟩
          rw [HM.out] at he
          subst he
          have kq : Keep wr w9 := by
            rw [← hw9]
            (repeat' (first | with_reducible assumption | with_reducible exact Keep.refl _ | with_reducible refine Keep.drew ?_ | with_reducible refine Keep.alloc ?_ _ | with_reducible refine Keep.trans ?_ hk))
          subst hw9
          have z0 := kq.cell c0
          have z1 := kq.cell c1
          have z2 := kq.cell c2
          have z3 := kq.cell c3
          have kz := hKr.trans kq
          clear kq
          go_wp2
          all_goals first
            | (go_roundw
               case rel => exact ⟨k + 1, by omega, by go_num, kz⟩
               case measure => simp [intOf]; omega
               done)
            | (refine ⟨⟨k + 1, by omega, by go_num, kz⟩, ?_⟩
               simp [intOf]; omega)
            | (exfalso; simp_all; done)
    · obtain rfl : k = rs.length := by omega
      go_wp2
      go_ret
      exact ⟨retB (by first | (simp; done) | (simp; omega)), K4.trans hKr⟩
end Go.Proofs.Ytkapnbfjpglblab
