/- P38: a store has limited room. -/
import Derived.Test.YtkapnbfjpglblabDrSa
import Derived.Test.YtkapnbfjpglblabFr
namespace Go.Proofs.Ytkapnbfjpglblab
open Go.RowKit
set_option linter.unusedVariables false

set_option maxRecDepth 100000 in
set_option maxHeartbeats 3200000 in
theorem walk_FnStoreFull (a0 : Option Addr) (len0 cap0 : Nat) (z0 : List Int) (w : World) (w0 : IsRow .u8 w a0 len0 cap0 z0) :
    Calls Try.prog 5 #[.slice a0 len0 cap0] w fun e w' => e = .returned (.bool true) ∧ Below w.heap.size w w' := by
  have ha := code_of_row w0
  obtain ⟨hl0, hm0⟩ := ha.1
  unfold maxLen at hm0
  clear w0
  by_cases h : len0 ≤ 1048576
  case' neg =>
    have hd : decide (1048576 < (len0 : Int)) = true := by simp; omega
    go_enter Try.func5, Try.ntmps5
    go_wp2
    go_ret
    exact ⟨rfl, Below.refl _ _⟩
  have hd : decide (1048576 < (len0 : Int)) = false := by simp; omega
  go_enter Try.func5, Try.ntmps5
  go_wp2_with fail
  refine (drawStoreAdd a0 len0 cap0 _ ha).mono ?_
  rintro e wd ⟨g, c, rs, s, d, k, v, rfl, hl, hcl, hF, ⟨d0, d1⟩, kd⟩
  have hz0 := kd.size
  have hB : Keep w (wd.alloc (.cells #[.int .i64 s, .int .i64 d, .int .i64 k, .int .i64 v] 25)) := kd.alloc _
  have hL0 := hF.rs.alloc (.cells #[.int .i64 s, .int .i64 d, .int .i64 k, .int .i64 v] 25)
  clear ha
  go_wp2_with fail
  refine (sad_impl g 0 c rs s d k v _ hL0 (by omega) hcl).mono ?_
  rintro e w2 ⟨p, q, rfl, hq2, hF2, k2⟩
  have b0 := k2.new 0 (v := .int .i64 s) rfl
  have b1 := k2.new 1 (v := .int .i64 d) rfl
  have b2 := k2.new 2 (v := .int .i64 k) rfl
  have b3 := k2.new 3 (v := .int .i64 v) rfl
  have hL2 := hL0.keep k2
  go_wp2_with fail
  refine (sad_spec g 0 c rs s d k v _ hL2 (by omega) hcl).mono ?_
  rintro e w3 ⟨p3, q3, rfl, hq3, hF3, k3⟩
  have c0 := k3.cell b0
  have c1 := k3.cell b1
  have c2 := k3.cell b2
  have c3 := k3.cell b3
  have hL := hL2.keep k3
  have hO := hF2.rs.keep k3
  have hW := hF3.rs
  have kk : Keep w w3 := (hB.trans k2).trans k3
  have hl40 := adL_len rs (s, d, k, v)
  clear b0 b1 b2 b3 hL0 hL2 hF hF2 hF3 k2 k3 kd hB
  have hcase : ((stB rs && rB (s, d, k, v)) = false) ∨ ((stB rs && rB (s, d, k, v)) = true ∧ rs.length = 40) ∨ ((stB rs && rB (s, d, k, v)) = true ∧ rs.length < 40) := by
    rcases Bool.eq_false_or_eq_true (stB rs && rB (s, d, k, v)) with h | h
    · have h9 := h
      simp only [Bool.and_eq_true] at h9
      have := (stB_facts h9.1).2
      rcases Nat.lt_or_ge rs.length 40 with h8 | h8
      · exact .inr (.inr ⟨h, h8⟩)
      · exact .inr (.inl ⟨h, by omega⟩)
    · exact .inl h
  generalize hLd : adL rs (s, d, k, v) = L at *
  generalize hBd : adB rs (s, d, k, v) = bb at *
  rcases hcase with hno | ⟨hok, hfull⟩ | ⟨hok, hless⟩
  · have HE := adL_no hno
    rw [hLd, hBd] at HE
    obtain ⟨rfl, rfl⟩ := HE
    clear hLd hBd hq2 hq3 hl40
    have HN := Lib.hid hno
    go_wp2_with fail
    refine (sR_same _ _ _ _ [] _ hO hW (by simp)).mono ?_
    rintro e w4 ⟨rfl, k4⟩
    have x0 := k4.cell c0
    have x1 := k4.cell c1
    have x2 := k4.cell c2
    have x3 := k4.cell c3
    rcases Bool.eq_false_or_eq_true (stB rs) with hs | hs
    · have hr : rOk s d k v = false := by have h9 := hno; rw [hs, Bool.true_and] at h9; exact h9
      replace hs := Lib.hid hs
      clear hno
      go_wp2_with fail
      refine (sv_spec _ _ rs _ (hL.keep k4) (by omega)).mono ?_
      rintro e w5 ⟨he, k5⟩
      rw [hs.out] at he
      subst he
      have y0 := k5.cell x0
      have y1 := k5.cell x1
      have y2 := k5.cell x2
      have y3 := k5.cell x3
      go_wp2_with fail
      refine (rv_spec s d k v _).mono ?_
      rintro e w6 ⟨he, k6⟩
      rw [hr] at he
      subst he
      have k46 : Keep w3 w6 := (k4.trans k5).trans k6
      go_wp2_with fail
      refine (sR_same _ _ _ _ [] _ (hO.keep k46) (hW.keep k46) (by simp)).mono ?_
      rintro e w7 ⟨rfl, k7⟩
      go_wp2
      go_ret
      exact ⟨rfl, (kk.trans k46).trans k7⟩
    · replace hs := Lib.hid hs
      clear hno
      go_wp2_with fail
      refine (sv_spec _ _ rs _ (hL.keep k4) (by omega)).mono ?_
      rintro e w5 ⟨he, k5⟩
      rw [hs.out] at he
      subst he
      have k45 : Keep w3 w5 := k4.trans k5
      go_wp2_with fail
      refine (sR_same _ _ _ _ [] _ (hO.keep k45) (hW.keep k45) (by simp)).mono ?_
      rintro e w7 ⟨rfl, k7⟩
      go_wp2
      go_ret
      exact ⟨rfl, (kk.trans k45).trans k7⟩
  · have HE := adL_full hok hfull
    rw [hLd, hBd] at HE
    obtain ⟨rfl, rfl⟩ := HE
    clear hLd hBd
    replace hok := Lib.hid hok
    replace hfull := Lib.hid hfull
    have HS : Hid (stB L = true) := Lib.hid (by have h9 := hok.out; simp only [Bool.and_eq_true] at h9; exact h9.1)
    have HR : Hid (rOk s d k v = true) := Lib.hid (by have h9 := hok.out; simp only [Bool.and_eq_true] at h9; exact h9.2)
    go_wp2_with fail
    refine (sR_same _ _ _ _ L _ hO hW (by omega)).mono ?_
    rintro e w4 ⟨rfl, k4⟩
    have x0 := k4.cell c0
    have x1 := k4.cell c1
    have x2 := k4.cell c2
    have x3 := k4.cell c3
    go_wp2_with fail
    refine (sv_spec _ _ L _ (hL.keep k4) (by omega)).mono ?_
    rintro e w5 ⟨he, k5⟩
    rw [HS.out] at he
    subst he
    have y0 := k5.cell x0
    have y1 := k5.cell x1
    have y2 := k5.cell x2
    have y3 := k5.cell x3
    go_wp2_with fail
    refine (rv_spec s d k v _).mono ?_
    rintro e w6 ⟨he, k6⟩
    rw [HR.out] at he
    subst he
    have k46 : Keep w3 w6 := (k4.trans k5).trans k6
    have d40 : decide ((L.length : Int) < 40) = false := by have := hfull.out; simp; omega
    go_wp2_with fail
    refine (sR_same _ _ _ _ L _ (hO.keep k46) (hL.keep k46) (by omega)).mono ?_
    rintro e w7 ⟨rfl, k7⟩
    go_wp2
    go_ret
    exact ⟨rfl, (kk.trans k46).trans k7⟩
  · have HE := adL_yes hok hless
    rw [hLd, hBd] at HE
    obtain ⟨hL1, rfl⟩ := HE
    have HLn : Hid (L.length = rs.length + 1) := Lib.hid (by rw [hL1]; simp)
    have HL1 := Lib.hid hL1
    clear hLd hBd hL1
    replace hok := Lib.hid hok
    have HS : Hid (stB rs = true) := Lib.hid (by have h9 := hok.out; simp only [Bool.and_eq_true] at h9; exact h9.1)
    have HR : Hid (rOk s d k v = true) := Lib.hid (by have h9 := hok.out; simp only [Bool.and_eq_true] at h9; exact h9.2)
    go_wp2_with fail
    refine (sR_same _ _ _ _ L _ hO hW (by omega)).mono ?_
    rintro e w4 ⟨rfl, k4⟩
    have x0 := k4.cell c0
    have x1 := k4.cell c1
    have x2 := k4.cell c2
    have x3 := k4.cell c3
    go_wp2_with fail
    refine (sv_spec _ _ rs _ (hL.keep k4) (by omega)).mono ?_
    rintro e w5 ⟨he, k5⟩
    rw [HS.out] at he
    subst he
    have y0 := k5.cell x0
    have y1 := k5.cell x1
    have y2 := k5.cell x2
    have y3 := k5.cell x3
    go_wp2_with fail
    refine (rv_spec s d k v _).mono ?_
    rintro e w6 ⟨he, k6⟩
    rw [HR.out] at he
    subst he
    have k46 : Keep w3 w6 := (k4.trans k5).trans k6
    have d40 : decide ((rs.length : Int) < 40) = true := by simp; omega
    go_wp2
    go_ret
    exact ⟨rfl, kk.trans k46⟩
end Go.Proofs.Ytkapnbfjpglblab
