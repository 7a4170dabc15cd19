/- P83: adjusted parts have one median. -/
import Derived.Test.YtehjjoalnfpgdaaDrAj
import Derived.Test.YtehjjoalnfpgdaaAq
import Derived.Test.YtehjjoalnfpgdaaAt
import Derived.Test.YtehjjoalnfpgdaaAk
import Derived.Test.YtehjjoalnfpgdaaLw
import Derived.Test.YtehjjoalnfpgdaaFr
import Derived.IntWalk
namespace Go.Proofs.Ytehjjoalnfpgdaa
open Go.RowKit
set_option linter.unusedVariables false

set_option maxRecDepth 100000 in
set_option maxHeartbeats 6400000 in
theorem walk_FnAdjust (a0 : Option Addr) (len0 cap0 : Nat) (z0 : List Int) (w : World) (w0 : IsRow .u8 w a0 len0 cap0 z0) :
    Calls Try.prog 3 #[.slice a0 len0 cap0] w fun e w' => e = .returned (.bool true) ∧ Below w.heap.size w w' := by
  have ha := code_of_row w0
  obtain ⟨hl0, hm0⟩ := ha.1
  unfold maxLen at hm0
  clear w0
  by_cases h : len0 ≤ 1048576
  case' neg =>
    have hd : decide (1048576 < (len0 : Int)) = true := by simp; omega
    go_enter Try.func3, Try.ntmps3
    go_wp2
    go_ret
    exact ⟨rfl, Below.refl _ _⟩
  have hd : decide (1048576 < (len0 : Int)) = false := by simp; omega
  go_enter Try.func3, Try.ntmps3
  go_wp2_with fail
  refine (drawAdjustOf a0 len0 cap0 _ ha).mono ?_
  rintro e w1 ⟨a, b0, ca, cb, zs, cs, rfl, ⟨hl11, hca⟩, ⟨hl13, hcb⟩, hL1, hC1, k1⟩
  clear ha
  have hz := aoL_le zs cs
  go_wp2_with fail
  refine (ao_impl a b0 ca cb zs cs _ hL1 hC1 hca (by omega) (by omega)).mono ?_
  rintro e w2 ⟨p, q, rfl, hq, hF2, k2⟩
  go_wp2_with fail
  refine (ao_spec a b0 ca cb zs cs _ (hL1.keep k2) (hC1.keep k2) hca (by omega) (by omega)).mono ?_
  rintro e w3 ⟨p3, q3, rfl, hq3, hF3, k3⟩
  have K3 : Keep w1 w3 := k2.trans k3
  have hO := hF2.ls.keep k3
  have hW := hF3.ls
  have hL := hL1.keep K3
  have hC := hC1.keep K3
  have KF := k1.trans K3
  clear hF2 hF3 k2 k3 hL1 hC1 K3 k1
  rcases Bool.eq_false_or_eq_true (aoB zs cs) with hs | hs
  case' inr =>
    generalize aoL zs cs = L at *
    rw [hs]
    clear hs
    go_wp2_with fail
    refine (sI_eq p p3 q q3 L _ hO hW (by omega)).mono ?_
    rintro e w5 ⟨rfl, k5⟩
    go_wp2_with fail
    refine (sI_eq p p3 q q3 L _ (hO.keep k5) (hW.keep k5) (by omega)).mono ?_
    rintro e w7 ⟨rfl, k7⟩
    go_wp2
    go_ret
    exact ⟨rfl, (KF.trans k5).trans k7⟩
  obtain ⟨y1, y2, y3, y4, y5⟩ := ao_yes hs
  obtain ⟨l1, l8, hlc⟩ := ajB_len y1
  obtain ⟨b, off, rfl, hb, _⟩ := hL.at_ (show 0 < zs.length by omega)
  obtain ⟨bo, oo, rfl, hbo, _⟩ := hO.at_ (show 0 < (aoL zs cs).length by omega)
  have HMo : Hid (∀ k, k ≤ cs.length → ∀ c W, Keep w3 W → Calls Try.prog 17 #[.slice (some ⟨bo, oo + pS cs k, none⟩) (pE zs cs k - pS cs k) c] W fun e w' => e = .returned (.tuple #[.int .i64 (mdP zs cs cs.length), .bool true]) ∧ Keep W w') := Lib.hid (fun k hk c W kw => by
    obtain ⟨e1, e2⟩ := seg_p y4 hk
    rw [pE_congr cs k y3] at e1 e2
    have hm := y5 k hk
    rw [mdP, pE_congr cs k y3] at hm
    obtain ⟨m1, m2, _⟩ := sh_mo e1
    have h9 := mo_impl (some ⟨bo, oo + pS cs k, none⟩) c (seg (aoL zs cs) (pS cs k) (pE zs cs k)) W (ls_seg (hO.keep kw) _ _) (by rw [e2]; have := (p_bd y1 hk).2.2.1; omega)
    rw [m1, m2, hm, e2] at h9; exact h9)
  have HMl : Hid (∀ c W, Keep w3 W → Calls Try.prog 17 #[.slice (some ⟨b, off + pS cs cs.length, none⟩) (zs.length - pS cs cs.length) c] W fun e w' => e = .returned (.tuple #[.int .i64 (mdP zs cs cs.length), .bool true]) ∧ Keep W w') := Lib.hid (fun c W kw => by
    obtain ⟨e1, e2⟩ := seg_p y1 (Nat.le_refl _)
    have hm : mdL (seg zs (pS cs cs.length) (pE zs cs cs.length)) = mdP zs cs cs.length := rfl
    rw [pE_last] at e1 e2 hm
    obtain ⟨m1, m2, _⟩ := sh_mo e1
    have h9 := mo_impl (some ⟨b, off + pS cs cs.length, none⟩) c (seg zs (pS cs cs.length) zs.length) W (ls_seg (hL.keep kw) _ _) (by rw [e2]; omega)
    rw [m1, m2, hm, e2] at h9; exact h9)
  have HP : Hid (∀ k, k < cs.length → pS cs k < pE zs cs k ∧ pE zs cs k ≤ zs.length ∧ cs.getD k 0 = (pE zs cs k : Int) ∧ pS cs (k + 1) = pE zs cs k) := Lib.hid (fun k hk => by
    obtain ⟨_, e2, e3, e4⟩ := p_bd y1 (k := k) (by omega)
    exact ⟨e2, e3, (e4 hk).1, pS_succ hk⟩)
  have HPl : Hid (ctP cs cs.length = (pS cs cs.length : Int) ∧ pS cs cs.length < zs.length) := Lib.hid (by
    obtain ⟨e1, e2, e3, _⟩ := p_bd y1 (k := cs.length) (Nat.le_refl _)
    exact ⟨e1, by omega⟩)
  have HCc := Lib.hid (fun W (k : Keep w3 W) j (hj : j < cs.length) => (hC.keep k).at_ hj)
  have HS := Lib.hid (fun (k : Keep w3 w3) => sI_eq (some ⟨bo, oo, none⟩) p3 q q3 (aoL zs cs) w3 hO hW (by omega))
  have HLn : Hid ((aoL zs cs).length = zs.length) := Lib.hid y3
  have hzn : zs.length ≤ q := by omega
  rw [y3] at HS
  rw [hs, y3]
  clear hs y1 y2 y3 y4 y5 hL hC hO hW hq hq3 hz HLn
  generalize mdP zs cs cs.length = M at *
  generalize hzl : zs.length = n at *
  clear hzl
  have HS4 := Lib.hid (HS.out (Keep.refl _))
  clear HS
  rcases Nat.eq_zero_or_pos cs.length with h0 | h0
  · have hd0 : decide (0 < (cs.length : Int)) = false := decide_eq_false (by omega)
    have hd1 : decide (0 < cs.length) = false := decide_eq_false (by omega)
    have hd2 : ¬ 0 < cs.length := by omega
    have HM0 : Hid (∀ c W, Keep w3 W → Calls Try.prog 17 #[.slice (some ⟨b, off, none⟩) n c] W fun e w' => e = .returned (.tuple #[.int .i64 M, .bool true]) ∧ Keep W w') := Lib.hid (fun c W kw => by
      have h9 := HMl.out c W kw
      rw [h0, pS_zero, Nat.add_zero, Nat.sub_zero] at h9; exact h9)
    have H0 := Lib.hid h0
    clear h0 HMl HPl
    go_wp2_with fail
    refine HS4.out.mono ?_
    rintro e w4 ⟨rfl, k4⟩
    go_wp2_with fail
    refine (HM0.out _ _ k4).mono ?_
    rintro e w5 ⟨rfl, k5⟩
    go_wp2_with fail
    go_loopw [9, 13] (fun f i wr => ∃ k : Nat, k ≤ cs.length ∧ i = .int .i64 k ∧ f = .int .i64 ((pS cs k : Nat) : Int) ∧ Keep w3 wr) (fun _ i _ => cs.length - (intOf i).toNat)
    case atStart => exact ⟨0, by omega, rfl, rfl, k4.trans k5⟩
    case round =>
      obtain ⟨k, hk, rfl, rfl, hKr⟩ := hrel
      have k0 : (0 : Int) ≤ (k : Int) := by omega
      by_cases hlt : k < cs.length
      · obtain ⟨bc, oc, hbc, _, cz⟩ := HCc.out wr hKr k hlt
        (first | subst hbc | (injection hbc with hbc; injection hbc with hbc1 hbc2 _; subst hbc1; subst hbc2))
        obtain ⟨p1, p2, p4, p5⟩ := HP.out k hlt
        rw [p4] at cz
        have HM := Lib.hid (HMo.out k hk)
        have H5 := Lib.hid p5
        have H4 := Lib.hid p4
        clear p4 p5
        have kz : (k : Int) < (cs.length : Int) := by omega
        generalize hps : pS cs k = ps at *
        generalize hpe : pE zs cs k = pe at *
        clear hps hpe
        have q1 : (0 : Int) ≤ (ps : Int) := by omega
        have q2 : (ps : Int) ≤ (pe : Int) := by omega
        have q3 : (pe : Int) ≤ (q : Int) := by omega
        have qc : ¬ q = ps := by omega
        go_wp2_with fail
        refine (HM.out _ _ hKr).mono ?_
        rintro e w9 ⟨rfl, k9⟩
        have cz9 := k9.cell cz
        go_wp2
        go_roundw
        case rel => exact ⟨k + 1, by omega, by go_num, by rw [H5.out], hKr.trans k9⟩
        case measure => simp [intOf]; omega
      · obtain rfl : k = cs.length := by omega
        go_wp2
        go_ret
        exact ⟨retB (by simp), KF.trans hKr⟩
  · obtain ⟨j, hj⟩ : ∃ j, cs.length - 1 = j := ⟨_, rfl⟩
    have ej : (cs.length : Int) - 1 = (j : Int) := by omega
    have hjl : j < cs.length := by omega
    have hd0 : decide (0 < (cs.length : Int)) = true := decide_eq_true (by omega)
    have hd1 : decide (0 < cs.length) = true := decide_eq_true (by omega)
    have hct : ctP cs cs.length = cs.getD j 0 := by rw [ctP, if_neg (by omega), hj]
    obtain ⟨e1, e2⟩ := HPl.out
    rw [hct] at e1
    go_wp2_with fail
    refine HS4.out.mono ?_
    rintro e w4 ⟨rfl, k4⟩
    obtain ⟨bc, oc, hbc, _, cz0⟩ := HCc.out w4 k4 j hjl
    subst hbc
    rw [e1] at cz0
    have HMl2 := Lib.hid (HMl.out)
    generalize hpl : pS cs cs.length = pl at *
    have j0 : (0 : Int) ≤ (j : Int) := by omega
    have jz : (j : Int) < (cs.length : Int) := by omega
    have ew : IntKind.i64.wrap ((cs.length : Int) - 1) = (j : Int) := by rw [ej]; exact IntWalk.i64_in _ ⟨by omega, by omega⟩
    have r1 : (0 : Int) ≤ (pl : Int) := by omega
    have r2 : (pl : Int) ≤ (n : Int) := by omega
    have r3 : (n : Int) ≤ (ca : Int) := by omega
    have rc : ¬ ca = pl := by omega
    clear hct e1 HPl HMl hpl
    go_wp2_with fail
    refine (HMl2.out _ _ k4).mono ?_
    rintro e w5 ⟨rfl, k5⟩
    clear cz0 ew ej
    go_wp2_with fail
    go_loopw [9, 13] (fun f i wr => ∃ k : Nat, k ≤ cs.length ∧ i = .int .i64 k ∧ f = .int .i64 ((pS cs k : Nat) : Int) ∧ Keep w3 wr) (fun _ i _ => cs.length - (intOf i).toNat)
    case atStart => exact ⟨0, by omega, rfl, rfl, k4.trans k5⟩
    case round =>
      obtain ⟨k, hk, rfl, rfl, hKr⟩ := hrel
      have k0 : (0 : Int) ≤ (k : Int) := by omega
      by_cases hlt : k < cs.length
      · obtain ⟨bc, oc, hbc, _, cz⟩ := HCc.out wr hKr k hlt
        (first | subst hbc | (injection hbc with hbc; injection hbc with hbc1 hbc2 _; subst hbc1; subst hbc2))
        obtain ⟨p1, p2, p4, p5⟩ := HP.out k hlt
        rw [p4] at cz
        have HM := Lib.hid (HMo.out k hk)
        have H5 := Lib.hid p5
        have H4 := Lib.hid p4
        clear p4 p5
        have kz : (k : Int) < (cs.length : Int) := by omega
        generalize hps : pS cs k = ps at *
        generalize hpe : pE zs cs k = pe at *
        clear hps hpe
        have q1 : (0 : Int) ≤ (ps : Int) := by omega
        have q2 : (ps : Int) ≤ (pe : Int) := by omega
        have q3 : (pe : Int) ≤ (q : Int) := by omega
        have qc : ¬ q = ps := by omega
        go_wp2_with fail
        refine (HM.out _ _ hKr).mono ?_
        rintro e w9 ⟨rfl, k9⟩
        have cz9 := k9.cell cz
        go_wp2
        go_roundw
        case rel => exact ⟨k + 1, by omega, by go_num, by rw [H5.out], hKr.trans k9⟩
        case measure => simp [intOf]; omega
      · obtain rfl : k = cs.length := by omega
        go_wp2
        go_ret
        exact ⟨retB (by simp), KF.trans hKr⟩
end Go.Proofs.Ytehjjoalnfpgdaa
