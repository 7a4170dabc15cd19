/- P47: values with flags are left out. -/
import Derived.Test.YtaghgapkjdkkfaaDrFc
import Derived.Test.YtaghgapkjdkkfaaFc
import Derived.Test.YtaghgapkjdkkfaaLw
import Derived.Test.YtaghgapkjdkkfaaFr
import Derived.LoopTactic
import Derived.IntWalk
namespace Go.Proofs.Ytaghgapkjdkkfaa
open Go.RowKit
set_option linter.unusedVariables false

set_option maxRecDepth 100000 in
set_option maxHeartbeats 6400000 in
theorem walk_FnFlagsClean (a0 : Option Addr) (len0 cap0 : Nat) (z0 : List Int) (w : World) (w0 : IsRow .u8 w a0 len0 cap0 z0) :
    Calls Try.prog 7 #[.slice a0 len0 cap0] w fun e w' => e = .returned (.bool true) ∧ Below w.heap.size w w' := by
  have ha := code_of_row w0
  obtain ⟨hl0, hm0⟩ := ha.1
  unfold maxLen at hm0
  clear w0
  by_cases h : len0 ≤ 1048576
  case' neg =>
    have hd : decide (1048576 < (len0 : Int)) = true := by simp; omega
    go_enter Try.func7, Try.ntmps7
    go_wp2
    go_ret
    exact ⟨rfl, Below.refl _ _⟩
  have hd : decide (1048576 < (len0 : Int)) = false := by simp; omega
  go_enter Try.func7, Try.ntmps7
  go_wp2_with fail
  refine (drawFlagsClean a0 len0 cap0 _ ha).mono ?_
  rintro e w1 ⟨a, b, c, d, zs, fs, rfl, ⟨hl13, hcap⟩, ⟨hf13, hfcap⟩, hB, hL1, hM1, k1⟩
  have hz := fcL_len zs fs
  have HB := Lib.hid hB
  clear ha hB
  go_wp2_with fail
  refine (fc_impl a b c d zs fs _ hL1 hM1 (by omega) (by omega)).mono ?_
  rintro e w2 ⟨p, q, rfl, hF2, k2⟩
  go_wp2_with fail
  refine (fc_spec a b c d zs fs _ (hL1.keep k2) (hM1.keep k2) (by omega) (by omega)).mono ?_
  rintro e w3 ⟨p3, q3, rfl, hF3, k3⟩
  have kk : Keep w w3 := (k1.trans k2).trans k3
  have hL := (hL1.keep k2).keep k3
  have hM := (hM1.keep k2).keep k3
  have hO := hF2.ls.keep k3
  have hW := hF3.ls
  clear hF2 hF3 hL1 hM1
  rcases Bool.eq_false_or_eq_true (fcOk zs fs) with hs | hs
  case' inr =>
    generalize fcL zs fs = L at *
    rw [hs]
    clear hs
    go_wp2_with fail
    refine (sI_eq p p3 q q3 L _ hO hW (by omega)).mono ?_
    rintro e w5 ⟨rfl, k5⟩
    go_wp2_with fail
    refine (sI_eq p p3 q q3 L _ (hO.keep k5) (hW.keep k5) (by omega)).mono ?_
    rintro e w7 ⟨rfl, k7⟩
    go_wp2
    go_ret
    exact ⟨rfl, (kk.trans k5).trans k7⟩
  obtain ⟨hq, hfl, hfa⟩ := fcOk_facts hs
  obtain ⟨hl1, hl12⟩ := (sq_facts hq).2
  have HQ := Lib.hid hq
  have HOK := Lib.hid hs
  have HFL := Lib.hid hfl
  have HFA := Lib.hid (fun k (hk : k < fs.length) => fl_bd' (all_at hfa hk))
  have HY := Lib.hid (fcL_yes hs)
  have HG : Hid (∀ k, k < zs.length → (fcL zs fs).getD k 0 = fcv (zs.getD k 0) (fs.getD k 0)) := Lib.hid (fun k hk => by rw [HY.out, fcl_at hk])
  have HLn : Hid ((fcL zs fs).length = zs.length) := Lib.hid (by rw [HY.out, fcl_len])
  rw [hs]
  clear hs hq hfl hfa
  generalize fcL zs fs = L at *
  have hle : L.length ≤ zs.length := by have := HLn.out; omega
  have hge : zs.length ≤ L.length := by have := HLn.out; omega
  have hle2 : fs.length ≤ zs.length := by have := HFL.out; omega
  have hge2 : zs.length ≤ fs.length := by have := HFL.out; omega
  go_wp2_with fail
  refine (sI_eq p p3 q q3 L _ hO hW (by omega)).mono ?_
  rintro e w4 ⟨rfl, k5⟩
  have L4 := Lib.hid (hL.keep k5)
  have M4 := Lib.hid (hM.keep k5)
  have O4 := Lib.hid (hO.keep k5)
  have K4 : Keep w w4 := kk.trans k5
  clear hL hM hO hW k1 k2 k3 k5 kk
  have hrep : (List.replicate zs.length (0 : Int)).length = zs.length := List.length_replicate
  have HE : Hid (fcL zs (List.replicate zs.length 0) = zs ∧ fcOk zs (List.replicate zs.length 0) = true ∧ sqB L = true) := Lib.hid (by
    have h1 : fcOk zs (List.replicate zs.length 0) = true := by
      rw [fcOk, HQ.out, hrep]
      simp only [decide_true, Bool.true_and, List.all_eq_true]
      intro x hx
      rw [List.eq_of_mem_replicate hx]; rfl
    refine ⟨?_, h1, by rw [HY.out]; exact fcl_valid HQ.out⟩
    rw [fcL_yes h1]
    exact fcl_zero hrep (fun k hk => by simp [List.getD_eq_getElem?_getD, hk]))
  have hmk := Lib.hid (fun W => run_make_row' (P := Try.prog) 23 3 (.int .i64 0) 8 Try.underlying23 infoIntL rfl .i64 .i64 zs.length (by omega) (by omega) W)
  have hmk4 := hmk.out w4
  clear hmk
  have HZ : Hid (∀ W, Keep (w4.alloc (.cells (madeCells #[Value.int .i64 0] zs.length) 3)) W → Ls W (some ⟨w4.heap.size, 0, none⟩) (List.replicate zs.length 0)) := Lib.hid (fun W hW => by
    refine .inr ⟨_, _, rfl, by have := hW.size; simp at this; omega, fun i hi => ?_⟩
    rw [Nat.zero_add]
    have hi' : i < zs.length := by simpa using hi
    refine hW.new i ?_
    rw [made_at _ _ hi']
    simp [List.getD_eq_getElem?_getD, hi'])
  have k4a : Keep w4 (w4.alloc (.cells (madeCells #[Value.int .i64 0] zs.length) 3)) := (Keep.refl w4).alloc _
  have HF := Lib.hid (fc_impl a (some ⟨w4.heap.size, 0, none⟩) c zs.length zs (List.replicate zs.length 0) _ (L4.out.keep k4a) (HZ.out _ (Keep.refl _)) (by omega) (by rw [hrep]; omega))
  rw [hrep] at HF
  clear hrep
  go_wp2_with fail
  refine HF.out.mono ?_
  rintro e w6 ⟨p6, q6, rfl, hF6, k6⟩
  rw [HE.out.1] at hF6 ⊢
  rw [HE.out.2.1]
  have k46 := k4a.trans k6
  clear HF hmk4
  have L6 := Lib.hid (L4.out.keep k46)
  have M6 := Lib.hid (M4.out.keep k46)
  have O6 := Lib.hid (O4.out.keep k46)
  have X6 := Lib.hid hF6.ls
  have K6 : Keep w w6 := K4.trans k46
  clear hF6 k46 k6 k4a
  go_wp2_with fail
  go_loopw [12] (fun i wr => ∃ k : Nat, k ≤ zs.length ∧ i = .int .i64 k ∧ Keep w6 wr) (fun i _ => zs.length - (intOf i).toNat)
  case atStart => exact ⟨0, by omega, rfl, Keep.refl _⟩
  case round =>
    obtain ⟨k, hk, rfl, hKr⟩ := hrel
    by_cases hlt : k < zs.length
    case' neg =>
      obtain rfl : k = zs.length := by omega
      go_wp2_with fail
      refine (sI_eq p6 a q6 c zs _ (X6.out.keep hKr) (L6.out.keep hKr) (by omega)).mono ?_
      rintro e w7 ⟨rfl, k7⟩
      go_wp2_with fail
      refine (sqv_impl p q L _ ((O6.out.keep hKr).keep k7) (by omega)).mono ?_
      rintro e w8 ⟨he, rfl⟩
      rw [HE.out.2.2] at he
      subst he
      go_wp2
      go_ret
      exact ⟨rfl, (K6.trans hKr).trans k7⟩
    have hltL : k < L.length := by omega
    have hltf : k < fs.length := by omega
    obtain ⟨b1, off1, rfl, hb1, c1⟩ := (L6.out.keep hKr).at_ hlt
    obtain ⟨b2, off2, rfl, hb2, c2⟩ := (M6.out.keep hKr).at_ hltf
    obtain ⟨b3, off3, rfl, hb3, c3⟩ := (O6.out.keep hKr).at_ hltL
    rw [HG.out k hlt] at c3
    obtain ⟨f0, f1⟩ := HFA.out k hltf
    have k0 : (0 : Int) ≤ (k : Int) := by omega
    have kz : (k : Int) < (zs.length : Int) := by omega
    have kL : (k : Int) < (L.length : Int) := by omega
    have kf : (k : Int) < (fs.length : Int) := by omega
    generalize zs.getD k 0 = x at c1 c3
    by_cases hf : fs.getD k 0 = 0
    · rw [hf] at c2 c3
      rw [fcv, if_pos rfl] at c3
      clear hf f0 f1
      go_wp2_with fail
      go_quiet (fail)
      go_wp2
      go_roundw
      case rel => exact ⟨k + 1, by omega, by go_num, hKr.drewN _⟩
      case measure => simp [intOf]; omega
    · rw [fcv, if_neg hf] at c3
      generalize fs.getD k 0 = f at c2 hf f0 f1
      have g1 : (f == 0) = false := beq_eq_false_iff_ne.2 hf
      have g2 : decide (0 < f) = true := decide_eq_true (by omega)
      clear hf
      go_wp2_with fail
      go_quiet (fail)
      go_wp2
      go_roundw
      case rel => exact ⟨k + 1, by omega, by go_num, hKr.drewN _⟩
      case measure => simp [intOf]; omega
end Go.Proofs.Ytaghgapkjdkkfaa
