/- P38: a series has the values of its days. -/
import Derived.Test.YtkapnbfjpglblabDrSs
import Derived.Test.YtkapnbfjpglblabSf
import Derived.Test.YtkapnbfjpglblabFr
import Derived.Deep.RegionHeld3
import Derived.IntWalk
namespace Go.Proofs.Ytkapnbfjpglblab
open Go.RowKit
set_option linter.unusedVariables false

set_option maxRecDepth 100000 in
set_option maxHeartbeats 3200000 in
theorem walk_FnStoreSeries (a0 : Option Addr) (len0 cap0 : Nat) (z0 : List Int) (w : World) (w0 : IsRow .u8 w a0 len0 cap0 z0) :
    Calls Try.prog 7 #[.slice a0 len0 cap0] w fun e w' => e = .returned (.bool true) ∧ Below w.heap.size w w' := by
  have ha := code_of_row w0
  obtain ⟨hl0, hm0⟩ := ha.1
  unfold maxLen at hm0
  clear w0
  by_cases h : len0 ≤ 1048576
  case' neg =>
    have hd : decide (1048576 < (len0 : Int)) = true := by simp; omega
    go_enter Try.func7, Try.ntmps7
    go_wp2
    go_ret
    exact ⟨rfl, Below.refl _ _⟩
  have hd : decide (1048576 < (len0 : Int)) = false := by simp; omega
  go_enter Try.func7, Try.ntmps7
  go_wp2_with fail
  refine (drawStoreSeries a0 len0 cap0 _ ha).mono ?_
  rintro e w1 ⟨g, c, rs, n, s, t, f, m, rfl, hl, hcl, hF, ⟨f0, f1⟩, ⟨m0, m1⟩, k1⟩
  have hL1 := hF.rs
  have hz := ssL_len rs n s t f m
  clear ha hF
  go_wp2_with fail
  refine (ss_impl _ c rs n s t f m _ hL1 (by omega) (by omega)).mono ?_
  rintro e w2 ⟨p, q, rfl, hF2, k2⟩
  go_wp2_with fail
  refine (ss_spec _ c rs n s t f m _ (hL1.keep k2) (by omega) (by omega)).mono ?_
  rintro e w3 ⟨p3, q3, rfl, hF3, k3⟩
  have kk : Keep w w3 := (k1.trans k2).trans k3
  have hL := (hL1.keep k2).keep k3
  have hO := hF2.ls.keep k3
  have hW := hF3.ls
  clear hF2 hF3 hL1
  rcases Bool.eq_false_or_eq_true (ssOk rs n s t f m) with hs | hs
  case' inr =>
    generalize ssL rs n s t f m = L at *
    rw [hs]
    clear hs
    go_wp2_with fail
    refine (sI_same p p3 q q3 L _ hO hW (by omega)).mono ?_
    rintro e w5 ⟨rfl, k5⟩
    go_wp2_with fail
    refine (sI_same p p3 q q3 L _ (hO.keep k5) (hW.keep k5) (by omega)).mono ?_
    rintro e w7 ⟨rfl, k7⟩
    go_wp2
    go_ret
    exact ⟨rfl, (kk.trans k5).trans k7⟩
  have hs2 := hs
  simp only [ssOk, Bool.and_eq_true] at hs2
  obtain ⟨_, _, _, mm, hmm, _, _⟩ := saB_facts hs2.2
  obtain ⟨_, _, x, hx, hxl⟩ := vrB_facts hs2.1
  have hv2 := hs2.1
  subst hmm
  subst hx
  have HY := Lib.hid (ssL_yes hs)
  have HG : Hid (∀ k, k < mm → svV rs (x : Int) s (f + (k : Int)) t = (ssL rs (x : Int) s t f (mm : Int)).getD k 0) := Lib.hid (fun k hk => by rw [HY.out, serN_at hk, svV_yes hv2])
  have HLn : Hid ((ssL rs (x : Int) s t f (mm : Int)).length = mm) := Lib.hid (by rw [HY.out, serN_len])
  rw [hs]
  clear hs hs2 hv2 HY
  generalize ssL rs (x : Int) s t f (mm : Int) = L at *
  have hlm : ((L.length : Int) == (mm : Int)) = true := by have := HLn.out; simp; omega
  go_wp2_with fail
  refine (sI_same p p3 q q3 L _ hO hW (by omega)).mono ?_
  rintro e w4 ⟨rfl, k5⟩
  have L4 := Lib.hid (hL.keep k5)
  have O4 := Lib.hid (hO.keep k5)
  have K4 : Keep w w4 := kk.trans k5
  clear hL hO hW k1 k2 k3 k5 kk
  generalize hn : (x : Int) = n at *
  clear hn
  go_wp2_with fail
  go_loopw [13] (fun i wr => ∃ k : Nat, k ≤ L.length ∧ i = .int .i64 k ∧ Keep w4 wr) (fun i _ => L.length - (intOf i).toNat)
  case atStart => exact ⟨0, by omega, rfl, Keep.refl _⟩
  case round =>
    obtain ⟨k, hk, rfl, hKr⟩ := hrel
    by_cases hlt : k < L.length
    · have hLr := L4.out.keep hKr
      obtain ⟨b, off, rfl, hb, c0⟩ := (O4.out.keep hKr).at_ hlt
      have HSV := Lib.hid (HG.out k (by have := HLn.out; omega))
      have hwr : IntKind.i64.wrap (f + (k : Int)) = f + (k : Int) := IntWalk.i64_in _ ⟨by omega, by omega⟩
      generalize L.getD k 0 = y at c0 HSV
      go_wp2_with fail
      go_region_held3 (fun w' => Keep wr w' ∧ w'.cell? ⟨b, off + k, none⟩ = some (.int .i64 y))
        ((go_split_ands; refine (fun hK => ⟨hK, hK.cell c0⟩ : Keep wr _ → _) ?_; (repeat' (first | with_reducible assumption | with_reducible exact Keep.refl _ | with_reducible refine Keep.drew ?_ | with_reducible refine Keep.alloc ?_ _ | with_reducible refine Keep.trans ?_ hk))))
        (first
          | (go_at_call 21; go_split_ands; refine (svv_impl (some ⟨g, 0, none⟩) c rs n s (f + (k : Int)) t _ (hLr.keep (by (repeat' (first | with_reducible assumption | with_reducible exact Keep.refl _ | with_reducible refine Keep.drew ?_ | with_reducible refine Keep.alloc ?_ _ | with_reducible refine Keep.trans ?_ hk)))) (by omega) (by omega)).mono ?_; rintro e w' ⟨he, hk⟩; rw [HSV.out] at he; subst he; go_split_ands; have hK : Keep wr w' := Keep.trans (by (repeat' (first | with_reducible assumption | with_reducible exact Keep.refl _ | with_reducible refine Keep.drew ?_ | with_reducible refine Keep.alloc ?_ _ | with_reducible refine Keep.trans ?_ hk))) hk))
      all_goals
        have kz : Keep w4 _ := hKr.trans hK
        go_wp2
        go_roundw
        case rel => exact ⟨k + 1, by omega, by go_num, kz⟩
        case measure => simp [intOf]; omega
    · obtain rfl : k = L.length := by omega
      go_wp2
      go_ret
      exact ⟨rfl, K4.trans hKr⟩
end Go.Proofs.Ytkapnbfjpglblab
