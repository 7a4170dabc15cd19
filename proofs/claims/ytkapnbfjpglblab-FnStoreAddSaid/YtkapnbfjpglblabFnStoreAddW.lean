/- P36: an added report is told. -/
import Derived.Test.YtkapnbfjpglblabDrSa
import Derived.Test.YtkapnbfjpglblabFr
import Derived.Deep.RegionHeld3
import Derived.IntWalk
namespace Go.Proofs.Ytkapnbfjpglblab
open Go.RowKit
set_option linter.unusedVariables false

theorem stB_snoc {rs : List R4} {r : R4} (h : (stB rs && rB r) = true) (hl : rs.length < 40) : stB (rs ++ [r]) = true := by
  simp only [Bool.and_eq_true] at h
  refine stB_yes ?_ (by simp; omega)
  rw [List.all_append, (stB_facts h.1).1]
  simp [h.2]
theorem svV_last {rs : List R4} {s d k v : Int} (h : (stB rs && rB (s, d, k, v)) = true) (hl : rs.length < 40) : svV (rs ++ [(s, d, k, v)]) ((rs.length + 1 : Nat) : Int) s d k = v := by
  have h1 : vrB (rs ++ [(s, d, k, v)]) ((rs.length + 1 : Nat) : Int) = true := by
    rw [vrB, stB_snoc h hl]; simp [inB]; omega
  rw [svV_yes h1]
  have e : (rs ++ [(s, d, k, v)]).getD rs.length r0 = (s, d, k, v) := by simp [List.getD_eq_getElem?_getD]
  simp only [vN, e]
  simp [rM, rD, rK, rV]
  intro h9
  simp [rS] at h9

set_option maxRecDepth 100000 in
set_option maxHeartbeats 3200000 in
theorem walk_FnStoreAdd (a0 : Option Addr) (len0 cap0 : Nat) (z0 : List Int) (w : World) (w0 : IsRow .u8 w a0 len0 cap0 z0) :
    Calls Try.prog 3 #[.slice a0 len0 cap0] w fun e w' => e = .returned (.bool true) ∧ Below w.heap.size w w' := by
  have ha := code_of_row w0
  obtain ⟨hl0, hm0⟩ := ha.1
  unfold maxLen at hm0
  clear w0
  by_cases h : len0 ≤ 1048576
  case' neg =>
    have hd : decide (1048576 < (len0 : Int)) = true := by simp; omega
    go_enter Try.func3, Try.ntmps3
    go_wp2
    go_ret
    exact ⟨rfl, Below.refl _ _⟩
  have hd : decide (1048576 < (len0 : Int)) = false := by simp; omega
  go_enter Try.func3, Try.ntmps3
  go_wp2_with fail
  refine (drawStoreAdd a0 len0 cap0 _ ha).mono ?_
  rintro e wd ⟨g, c, rs, s, d, k, v, rfl, hl, hcl, hF, ⟨d0, d1⟩, kd⟩
  have hz0 := kd.size
  have hB : Keep w (wd.alloc (.cells #[.int .i64 s, .int .i64 d, .int .i64 k, .int .i64 v] 25)) := kd.alloc _
  have hL0 := hF.rs.alloc (.cells #[.int .i64 s, .int .i64 d, .int .i64 k, .int .i64 v] 25)
  clear ha
  go_wp2_with fail
  refine (sad_impl g 0 c rs s d k v _ hL0 (by omega) hcl).mono ?_
  rintro e w2 ⟨p, q, rfl, hq2, hF2, k2⟩
  have b0 := k2.new 0 (v := .int .i64 s) rfl
  have b1 := k2.new 1 (v := .int .i64 d) rfl
  have b2 := k2.new 2 (v := .int .i64 k) rfl
  have b3 := k2.new 3 (v := .int .i64 v) rfl
  have hL2 := hL0.keep k2
  go_wp2_with fail
  refine (sad_spec g 0 c rs s d k v _ hL2 (by omega) hcl).mono ?_
  rintro e w3 ⟨p3, q3, rfl, hq3, hF3, k3⟩
  have c0 := k3.cell b0
  have c1 := k3.cell b1
  have c2 := k3.cell b2
  have c3 := k3.cell b3
  have hL := hL2.keep k3
  have hO := hF2.rs.keep k3
  have hW := hF3.rs
  have kk : Keep w w3 := (hB.trans k2).trans k3
  have hl40 := adL_len rs (s, d, k, v)
  clear b0 b1 b2 b3 hL0 hL2 hF hF2 hF3 k2 k3 kd hB
  have hcase : ((stB rs && rB (s, d, k, v)) = false) ∨ ((stB rs && rB (s, d, k, v)) = true ∧ rs.length = 40) ∨ ((stB rs && rB (s, d, k, v)) = true ∧ rs.length < 40) := by
    rcases Bool.eq_false_or_eq_true (stB rs && rB (s, d, k, v)) with h | h
    · have h9 := h
      simp only [Bool.and_eq_true] at h9
      have := (stB_facts h9.1).2
      rcases Nat.lt_or_ge rs.length 40 with h8 | h8
      · exact .inr (.inr ⟨h, h8⟩)
      · exact .inr (.inl ⟨h, by omega⟩)
    · exact .inl h
  generalize hLd : adL rs (s, d, k, v) = L at *
  generalize hBd : adB rs (s, d, k, v) = bb at *
  rcases hcase with hno | ⟨hok, hfull⟩ | ⟨hok, hless⟩
  · have HE := adL_no hno
    rw [hLd, hBd] at HE
    obtain ⟨rfl, rfl⟩ := HE
    clear hLd hBd hq2 hq3 hl40
    go_wp2_with fail
    refine (sR_same _ _ _ _ [] _ hO hW (by simp)).mono ?_
    rintro e w4 ⟨rfl, k4⟩
    go_wp2_with fail
    refine (sR_same _ _ _ _ [] _ (hO.keep k4) (hW.keep k4) (by simp)).mono ?_
    rintro e w5 ⟨rfl, k5⟩
    go_wp2
    go_ret
    exact ⟨rfl, (kk.trans k4).trans k5⟩
  · have HE := adL_full hok hfull
    rw [hLd, hBd] at HE
    obtain ⟨rfl, rfl⟩ := HE
    clear hLd hBd
    replace hok := Lib.hid hok
    replace hfull := Lib.hid hfull
    go_wp2_with fail
    refine (sR_same _ _ _ _ L _ hO hW (by omega)).mono ?_
    rintro e w4 ⟨rfl, k4⟩
    go_wp2_with fail
    refine (sR_same _ _ _ _ L _ (hO.keep k4) (hW.keep k4) (by omega)).mono ?_
    rintro e w5 ⟨rfl, k5⟩
    go_wp2
    go_ret
    exact ⟨rfl, (kk.trans k4).trans k5⟩
  · have HE := adL_yes hok hless
    rw [hLd, hBd] at HE
    obtain ⟨hL1, rfl⟩ := HE
    have HLn : Hid (L.length = rs.length + 1) := Lib.hid (by rw [hL1]; simp)
    have HL1 := Lib.hid hL1
    clear hLd hBd hL1
    replace hok := Lib.hid hok
    have hlen : ((L.length : Int) == (rs.length : Int) + 1) = true := by have := HLn.out; simp; omega
    have hwr : IntKind.i64.wrap ((rs.length : Int) + 1) = (rs.length : Int) + 1 := IntWalk.i64_in _ ⟨by omega, by omega⟩
    have HV : Hid (svV L (L.length : Int) s d k = v) := Lib.hid (by rw [HLn.out, HL1.out]; exact svV_last hok.out hless)
    have HT := Lib.hid (show Rs w3 p rs by
      have h9 := hO.take rs.length
      rw [HL1.out, List.take_left] at h9
      exact h9)
    have hrq : rs.length ≤ q := by have := HLn.out; omega
    go_wp2_with fail
    refine (sR_same _ _ _ _ L _ hO hW (by omega)).mono ?_
    rintro e w4 ⟨rfl, k4⟩
    have O4 := hO.keep k4
    have L4 := hL.keep k4
    have y0 := k4.cell c0
    have y1 := k4.cell c1
    have y2 := k4.cell c2
    have y3 := k4.cell c3
    clear c0 c1 c2 c3
    have q0 : (0 : Int) ≤ (rs.length : Int) := by omega
    have q1 : (rs.length : Int) ≤ (q : Int) := by omega
    have T4 := HT.out.keep k4
    go_wp2_with fail
    go_region_held3 (fun w' => Keep w4 w' ∧ w'.cell? ⟨wd.heap.size, 0, none⟩ = some (.int .i64 s) ∧ w'.cell? ⟨wd.heap.size, 1, none⟩ = some (.int .i64 d) ∧ w'.cell? ⟨wd.heap.size, 2, none⟩ = some (.int .i64 k) ∧ w'.cell? ⟨wd.heap.size, 3, none⟩ = some (.int .i64 v))
      ((go_split_ands; refine (fun hK => ⟨hK, hK.cell y0, hK.cell y1, hK.cell y2, hK.cell y3⟩ : Keep w4 _ → _) ?_; (repeat' (first | with_reducible assumption | with_reducible exact Keep.refl _ | with_reducible refine Keep.drew ?_ | with_reducible refine Keep.alloc ?_ _ | with_reducible refine Keep.trans ?_ hk))))
      (first
        | (go_at_call 20; go_split_ands; (refine (sR_same _ _ _ _ rs _ (T4.keep (by (repeat' (first | with_reducible assumption | with_reducible exact Keep.refl _ | with_reducible refine Keep.drew ?_ | with_reducible refine Keep.alloc ?_ _ | with_reducible refine Keep.trans ?_ hk)))) (L4.keep (by (repeat' (first | with_reducible assumption | with_reducible exact Keep.refl _ | with_reducible refine Keep.drew ?_ | with_reducible refine Keep.alloc ?_ _ | with_reducible refine Keep.trans ?_ hk)))) (by omega)).mono ?_); rintro e w' ⟨rfl, hk⟩; go_split_ands; have hK : Keep w4 w' := Keep.trans (by (repeat' (first | with_reducible assumption | with_reducible exact Keep.refl _ | with_reducible refine Keep.drew ?_ | with_reducible refine Keep.alloc ?_ _ | with_reducible refine Keep.trans ?_ hk))) hk)
        | (go_at_call 21; go_split_ands; (refine (svv_impl p q L (L.length : Int) s d k _ (O4.keep (by (repeat' (first | with_reducible assumption | with_reducible exact Keep.refl _ | with_reducible refine Keep.drew ?_ | with_reducible refine Keep.alloc ?_ _ | with_reducible refine Keep.trans ?_ hk)))) (by omega) (by omega)).mono ?_); rintro e w' ⟨he, hk⟩; rw [HV.out] at he; subst he; go_split_ands; have hK : Keep w4 w' := Keep.trans (by (repeat' (first | with_reducible assumption | with_reducible exact Keep.refl _ | with_reducible refine Keep.drew ?_ | with_reducible refine Keep.alloc ?_ _ | with_reducible refine Keep.trans ?_ hk))) hk))
    all_goals
      go_wp2
      go_ret
      exact ⟨rfl, (kk.trans k4).trans (by (repeat' (first | with_reducible assumption | with_reducible exact Keep.refl _ | with_reducible refine Keep.drew ?_ | with_reducible refine Keep.alloc ?_ _ | with_reducible refine Keep.trans ?_ hk)))⟩
end Go.Proofs.Ytkapnbfjpglblab
