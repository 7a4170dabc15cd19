/- P42: a report that was told before changes nothing. -/
import Derived.Test.YtkapnbfjpglblabDrSa
import Derived.Test.YtkapnbfjpglblabFr
import Derived.Deep.RegionHeld3
import Derived.Test.YtkapnbfjpglblabSf
namespace Go.Proofs.Ytkapnbfjpglblab
open Go.RowKit
set_option linter.unusedVariables false

theorem stB_snocO {rs : List R4} {r : R4} (h : (stB rs && rB r) = true) (hl : rs.length < 40) : stB (rs ++ [r]) = true := by
  simp only [Bool.and_eq_true] at h
  refine stB_yes ?_ (by simp; omega)
  rw [List.all_append, (stB_facts h.1).1]
  simp [h.2]

theorem vN_same {rs : List R4} {s d k v : Int} (h : vN rs s d k rs.length = v) (x : Int) : vN (rs ++ [(s, d, k, v)]) s x k (rs.length + 1) = vN rs s x k rs.length := by
  have e : (rs ++ [(s, d, k, v)]).getD rs.length r0 = (s, d, k, v) := by simp [List.getD_eq_getElem?_getD]
  have h3 := vN_take (rs ++ [(s, d, k, v)]) s x k rs.length (by simp) rs.length (Nat.le_refl _)
  rw [List.take_left] at h3
  simp only [vN, e]
  rw [← h3]
  by_cases hx : d = x
  · subst hx; simp [rM, rS, rD, rK, rV, h]
  · have hm : rM s x k (s, d, k, v) = false := by simp [rM, rS, rD, rK, hx]
    rw [hm]; simp
theorem serN_same {rs : List R4} {s d k v : Int} (h : vN rs s d k rs.length = v) (f : Int) (m : Nat) : serN (rs ++ [(s, d, k, v)]) (rs.length + 1) s k f m = serN rs rs.length s k f m := by
  simp only [serN, vN_same h]
theorem ss_week {rs : List R4} {s d k v : Int} (h : (stB rs && rB (s, d, k, v)) = true) (hl : rs.length < 40) (hv : vN rs s d k rs.length = v) (f : Int) (h0 : 0 ≤ f) (h1 : f ≤ 999) :
    ssOk rs (rs.length : Int) s k f 7 = true ∧ ssOk (rs ++ [(s, d, k, v)]) ((rs.length + 1 : Nat) : Int) s k f 7 = true ∧ ssL (rs ++ [(s, d, k, v)]) ((rs.length + 1 : Nat) : Int) s k f 7 = ssL rs (rs.length : Int) s k f 7 ∧ (ssL rs (rs.length : Int) s k f 7).length = 7 := by
  have h9 := h
  simp only [Bool.and_eq_true] at h9
  have hs : saB s k f 7 = true := by
    have h8 : rOk s d k v = true := h9.2
    simp only [rOk, inB, Bool.and_eq_true, decide_eq_true_eq] at h8
    simp only [saB, inB, Bool.and_eq_true, decide_eq_true_eq]
    exact ⟨⟨⟨h8.1.1.1, by omega⟩, by omega⟩, by omega⟩
  have v1 : vrB rs (rs.length : Int) = true := by rw [vrB, h9.1]; simp [inB]
  have v2 : vrB (rs ++ [(s, d, k, v)]) ((rs.length + 1 : Nat) : Int) = true := by rw [vrB, stB_snocO h hl]; simp [inB]; omega
  have o1 : ssOk rs (rs.length : Int) s k f ((7 : Nat) : Int) = true := by rw [ssOk, v1]; exact hs
  have o2 : ssOk (rs ++ [(s, d, k, v)]) ((rs.length + 1 : Nat) : Int) s k f ((7 : Nat) : Int) = true := by rw [ssOk, v2]; exact hs
  refine ⟨o1, o2, ?_, ?_⟩
  · have e1 := ssL_yes o1
    have e2 := ssL_yes o2
    exact e2.trans ((serN_same hv f 7).trans e1.symm)
  · have e1 := ssL_yes o1
    exact (congrArg List.length e1).trans (serN_len _ _ _ _ _ _)

set_option maxRecDepth 100000 in
set_option maxHeartbeats 3200000 in
theorem walk_FnStoreSame (a0 : Option Addr) (len0 cap0 : Nat) (z0 : List Int) (w : World) (w0 : IsRow .u8 w a0 len0 cap0 z0) :
    Calls Try.prog 11 #[.slice a0 len0 cap0] w fun e w' => e = .returned (.bool true) ∧ Below w.heap.size w w' := by
  have ha := code_of_row w0
  obtain ⟨hl0, hm0⟩ := ha.1
  unfold maxLen at hm0
  clear w0
  by_cases h : len0 ≤ 1048576
  case' neg =>
    have hd : decide (1048576 < (len0 : Int)) = true := by simp; omega
    go_enter Try.func11, Try.ntmps11
    go_wp2
    go_ret
    exact ⟨rfl, Below.refl _ _⟩
  have hd : decide (1048576 < (len0 : Int)) = false := by simp; omega
  go_enter Try.func11, Try.ntmps11
  go_wp2_with fail
  refine (drawStoreAdd a0 len0 cap0 _ ha).mono ?_
  rintro e wd ⟨g, c, rs, s, d, k, v, rfl, hl, hcl, hF, ⟨d0, d1⟩, kd⟩
  have hz0 := kd.size
  have hB : Keep w (wd.alloc (.cells #[.int .i64 s, .int .i64 d, .int .i64 k, .int .i64 v] 25)) := kd.alloc _
  have hL0 := hF.rs.alloc (.cells #[.int .i64 s, .int .i64 d, .int .i64 k, .int .i64 v] 25)
  clear ha
  go_wp2_with fail
  refine (sad_impl g 0 c rs s d k v _ hL0 (by omega) hcl).mono ?_
  rintro e w2 ⟨p, q, rfl, hq2, hF2, k2⟩
  have b0 := k2.new 0 (v := .int .i64 s) rfl
  have b1 := k2.new 1 (v := .int .i64 d) rfl
  have b2 := k2.new 2 (v := .int .i64 k) rfl
  have b3 := k2.new 3 (v := .int .i64 v) rfl
  have hL2 := hL0.keep k2
  go_wp2_with fail
  refine (sad_spec g 0 c rs s d k v _ hL2 (by omega) hcl).mono ?_
  rintro e w3 ⟨p3, q3, rfl, hq3, hF3, k3⟩
  have c0 := k3.cell b0
  have c1 := k3.cell b1
  have c2 := k3.cell b2
  have c3 := k3.cell b3
  have hL := hL2.keep k3
  have hO := hF2.rs.keep k3
  have hW := hF3.rs
  have kk : Keep w w3 := (hB.trans k2).trans k3
  have hl40 := adL_len rs (s, d, k, v)
  clear b0 b1 b2 b3 hL0 hL2 hF hF2 hF3 k2 k3 kd hB
  have hcase : ((stB rs && rB (s, d, k, v)) = false) ∨ ((stB rs && rB (s, d, k, v)) = true ∧ rs.length = 40) ∨ ((stB rs && rB (s, d, k, v)) = true ∧ rs.length < 40) := by
    rcases Bool.eq_false_or_eq_true (stB rs && rB (s, d, k, v)) with h | h
    · have h9 := h
      simp only [Bool.and_eq_true] at h9
      have := (stB_facts h9.1).2
      rcases Nat.lt_or_ge rs.length 40 with h8 | h8
      · exact .inr (.inr ⟨h, h8⟩)
      · exact .inr (.inl ⟨h, by omega⟩)
    · exact .inl h
  generalize hLd : adL rs (s, d, k, v) = L at *
  generalize hBd : adB rs (s, d, k, v) = bb at *
  rcases hcase with hno | ⟨hok, hfull⟩ | ⟨hok, hless⟩
  · have HE := adL_no hno
    rw [hLd, hBd] at HE
    obtain ⟨rfl, rfl⟩ := HE
    clear hLd hBd hq2 hq3 hl40
    go_wp2_with fail
    refine (sR_same _ _ _ _ [] _ hO hW (by simp)).mono ?_
    rintro e w4 ⟨rfl, k4⟩
    go_wp2_with fail
    refine (sR_same _ _ _ _ [] _ (hO.keep k4) (hW.keep k4) (by simp)).mono ?_
    rintro e w5 ⟨rfl, k5⟩
    go_wp2
    go_ret
    exact ⟨rfl, (kk.trans k4).trans k5⟩
  · have HE := adL_full hok hfull
    rw [hLd, hBd] at HE
    obtain ⟨rfl, rfl⟩ := HE
    clear hLd hBd
    replace hok := Lib.hid hok
    replace hfull := Lib.hid hfull
    go_wp2_with fail
    refine (sR_same _ _ _ _ L _ hO hW (by omega)).mono ?_
    rintro e w4 ⟨rfl, k4⟩
    go_wp2_with fail
    refine (sR_same _ _ _ _ L _ (hO.keep k4) (hW.keep k4) (by omega)).mono ?_
    rintro e w5 ⟨rfl, k5⟩
    go_wp2
    go_ret
    exact ⟨rfl, (kk.trans k4).trans k5⟩
  · have HE := adL_yes hok hless
    rw [hLd, hBd] at HE
    obtain ⟨hL1, rfl⟩ := HE
    have HLn : Hid (L.length = rs.length + 1) := Lib.hid (by rw [hL1]; simp)
    have HL1 := Lib.hid hL1
    clear hLd hBd hL1
    replace hok := Lib.hid hok
    have HSR : Hid (stB rs = true ∧ rOk s d k v = true) := Lib.hid (by have h9 := hok.out; simp only [Bool.and_eq_true] at h9; exact h9)
    have HSL : Hid (stB L = true) := Lib.hid (by rw [HL1.out]; exact stB_snocO hok.out hless)
    have HVR : Hid (vrB rs (rs.length : Int) = true) := Lib.hid (by rw [vrB, HSR.out.1]; simp [inB])
    have HVL : Hid (vrB L (L.length : Int) = true) := Lib.hid (by rw [vrB, HSL.out]; simp [inB])
    have HSV : Hid (svV rs (rs.length : Int) s d k = vN rs s d k rs.length) := Lib.hid (svV_yes HVR.out s d k)
    have hd9 : 0 ≤ d ∧ d ≤ 999 := by
      have h9 := HSR.out.2
      simp only [rOk, inB, Bool.and_eq_true, decide_eq_true_eq] at h9
      omega
    go_wp2_with fail
    refine (sR_same _ _ _ _ L _ hO hW (by omega)).mono ?_
    rintro e w4 ⟨rfl, k4⟩
    have O4 := hO.keep k4
    have L4 := hL.keep k4
    have y0 := k4.cell c0
    have y1 := k4.cell c1
    have y2 := k4.cell c2
    have y3 := k4.cell c3
    clear c0 c1 c2 c3
    have HVE : Hid ((vN rs s d k rs.length == v) = true → vN rs s d k rs.length = v) := Lib.hid (fun h => by simpa using h)
    obtain ⟨X, hX⟩ : ∃ X, vN rs s d k rs.length = X := ⟨_, rfl⟩
    have HX := Lib.hid hX
    rw [hX] at HSV
    clear hX HVE
    by_cases hXv : X = v
    case' neg =>
      have hx1 : (X == v) = false := by simpa using hXv
      have hx2 : (X != v) = true := by simpa using hXv
      clear hXv
      go_wp2_with fail
      go_region_held3 (fun w' => Keep w4 w' ∧ w'.cell? ⟨wd.heap.size, 0, none⟩ = some (.int .i64 s) ∧ w'.cell? ⟨wd.heap.size, 1, none⟩ = some (.int .i64 d) ∧ w'.cell? ⟨wd.heap.size, 2, none⟩ = some (.int .i64 k) ∧ w'.cell? ⟨wd.heap.size, 3, none⟩ = some (.int .i64 v))
        ((go_split_ands; refine (fun hK => ⟨hK, hK.cell y0, hK.cell y1, hK.cell y2, hK.cell y3⟩ : Keep w4 _ → _) ?_; (repeat' (first | with_reducible assumption | with_reducible exact Keep.refl _ | with_reducible refine Keep.drew ?_ | with_reducible refine Keep.alloc ?_ _ | with_reducible refine Keep.trans ?_ hk))))
        (first
          | (go_at_call 21; go_split_ands; (refine (svv_impl (some ⟨g, 0, none⟩) c rs (rs.length : Int) s d k _ (L4.keep (by (repeat' (first | with_reducible assumption | with_reducible exact Keep.refl _ | with_reducible refine Keep.drew ?_ | with_reducible refine Keep.alloc ?_ _ | with_reducible refine Keep.trans ?_ hk)))) (by omega) (by omega)).mono ?_); rintro e w' ⟨he, hk⟩; rw [HSV.out] at he; subst he; go_split_ands; have hK : Keep w4 w' := Keep.trans (by (repeat' (first | with_reducible assumption | with_reducible exact Keep.refl _ | with_reducible refine Keep.drew ?_ | with_reducible refine Keep.alloc ?_ _ | with_reducible refine Keep.trans ?_ hk))) hk))
      all_goals
        go_wp2
        go_ret
        exact ⟨rfl, (kk.trans k4).trans (by (repeat' (first | with_reducible assumption | with_reducible exact Keep.refl _ | with_reducible refine Keep.drew ?_ | with_reducible refine Keep.alloc ?_ _ | with_reducible refine Keep.trans ?_ hk)))⟩
    replace hXv := hXv.symm
    subst hXv
    have HW9 := Lib.hid (fun f h0 h1 => ss_week hok.out hless HX.out f h0 h1)
    rw [show ((rs.length + 1 : Nat) : Int) = (L.length : Int) by rw [HLn.out], ← HL1.out] at HW9
    go_wp2_with fail
    go_region_held3 (fun w' => Keep w4 w' ∧ w'.cell? ⟨wd.heap.size, 0, none⟩ = some (.int .i64 s) ∧ w'.cell? ⟨wd.heap.size, 1, none⟩ = some (.int .i64 d) ∧ w'.cell? ⟨wd.heap.size, 2, none⟩ = some (.int .i64 k) ∧ w'.cell? ⟨wd.heap.size, 3, none⟩ = some (.int .i64 v))
      ((go_split_ands; refine (fun hK => ⟨hK, hK.cell y0, hK.cell y1, hK.cell y2, hK.cell y3⟩ : Keep w4 _ → _) ?_; (repeat' (first | with_reducible assumption | with_reducible exact Keep.refl _ | with_reducible refine Keep.drew ?_ | with_reducible refine Keep.alloc ?_ _ | with_reducible refine Keep.trans ?_ hk))))
      (first
        | (go_at_call 21; go_split_ands; (refine (svv_impl (some ⟨g, 0, none⟩) c rs (rs.length : Int) s d k _ (L4.keep (by (repeat' (first | with_reducible assumption | with_reducible exact Keep.refl _ | with_reducible refine Keep.drew ?_ | with_reducible refine Keep.alloc ?_ _ | with_reducible refine Keep.trans ?_ hk)))) (by omega) (by omega)).mono ?_); rintro e w' ⟨he, hk⟩; rw [HSV.out] at he; subst he; go_split_ands; have hK : Keep w4 w' := Keep.trans (by (repeat' (first | with_reducible assumption | with_reducible exact Keep.refl _ | with_reducible refine Keep.drew ?_ | with_reducible refine Keep.alloc ?_ _ | with_reducible refine Keep.trans ?_ hk))) hk))
    all_goals go_wp2_with fail
    all_goals
      first
        | (have HF := Lib.hid (HW9.out (0 : Int) (by omega) (by omega))
           with_reducible refine (ss_impl (some ⟨g, 0, none⟩) c rs (rs.length : Int) s k (0 : Int) 7 _ (L4.keep (by (repeat' (first | with_reducible assumption | with_reducible exact Keep.refl _ | with_reducible refine Keep.drew ?_ | with_reducible refine Keep.alloc ?_ _ | with_reducible refine Keep.trans ?_ hk)))) (by omega) (by omega)).mono ?_
           rintro e w6 ⟨pa, qa, he, hFa, k6⟩
           rw [HF.out.1] at he
           subst he
           have k46 : Keep w4 w6 := Keep.trans (by (repeat' (first | with_reducible assumption | with_reducible exact Keep.refl _ | with_reducible refine Keep.drew ?_ | with_reducible refine Keep.alloc ?_ _ | with_reducible refine Keep.trans ?_ hk))) k6
           have z0 := k46.cell y0
           have z1 := k46.cell y1
           have z2 := k46.cell y2
           have z3 := k46.cell y3
           go_wp2_with fail
           with_reducible refine (ss_impl p q L (L.length : Int) s k (0 : Int) 7 _ (O4.keep k46) (by omega) (by omega)).mono ?_
           rintro e w7 ⟨pb, qb, he, hFb, k7⟩
           rw [HF.out.2.1, HF.out.2.2.1] at he
           rw [HF.out.2.2.1] at hFb
           subst he
           go_wp2_with fail
           refine (sI_same pa pb qa qb _ _ (hFa.keep k7).ls hFb.ls (by rw [HF.out.2.2.2]; omega)).mono ?_
           rintro e w8 ⟨rfl, k8⟩
           go_wp2
           go_ret
           exact ⟨rfl, (((kk.trans k4).trans k46).trans k7).trans k8⟩)
        | (have HF := Lib.hid (HW9.out (d - 3) (by omega) (by omega))
           with_reducible refine (ss_impl (some ⟨g, 0, none⟩) c rs (rs.length : Int) s k (d - 3) 7 _ (L4.keep (by (repeat' (first | with_reducible assumption | with_reducible exact Keep.refl _ | with_reducible refine Keep.drew ?_ | with_reducible refine Keep.alloc ?_ _ | with_reducible refine Keep.trans ?_ hk)))) (by omega) (by omega)).mono ?_
           rintro e w6 ⟨pa, qa, he, hFa, k6⟩
           rw [HF.out.1] at he
           subst he
           have k46 : Keep w4 w6 := Keep.trans (by (repeat' (first | with_reducible assumption | with_reducible exact Keep.refl _ | with_reducible refine Keep.drew ?_ | with_reducible refine Keep.alloc ?_ _ | with_reducible refine Keep.trans ?_ hk))) k6
           have z0 := k46.cell y0
           have z1 := k46.cell y1
           have z2 := k46.cell y2
           have z3 := k46.cell y3
           go_wp2_with fail
           with_reducible refine (ss_impl p q L (L.length : Int) s k (d - 3) 7 _ (O4.keep k46) (by omega) (by omega)).mono ?_
           rintro e w7 ⟨pb, qb, he, hFb, k7⟩
           rw [HF.out.2.1, HF.out.2.2.1] at he
           rw [HF.out.2.2.1] at hFb
           subst he
           go_wp2_with fail
           refine (sI_same pa pb qa qb _ _ (hFa.keep k7).ls hFb.ls (by rw [HF.out.2.2.2]; omega)).mono ?_
           rintro e w8 ⟨rfl, k8⟩
           go_wp2
           go_ret
           exact ⟨rfl, (((kk.trans k4).trans k46).trans k7).trans k8⟩)
end Go.Proofs.Ytkapnbfjpglblab
