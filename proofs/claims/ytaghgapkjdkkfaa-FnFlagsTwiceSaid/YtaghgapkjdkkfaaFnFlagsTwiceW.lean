/- P48: cleaning again changes nothing. -/
import Derived.Test.YtaghgapkjdkkfaaDrFc
import Derived.Test.YtaghgapkjdkkfaaFc
import Derived.Test.YtaghgapkjdkkfaaLw
import Derived.Test.YtaghgapkjdkkfaaFr
import Derived.LoopTactic
import Derived.IntWalk
namespace Go.Proofs.Ytaghgapkjdkkfaa
open Go.RowKit
set_option linter.unusedVariables false

set_option maxRecDepth 100000 in
set_option maxHeartbeats 6400000 in
theorem walk_FnFlagsTwice (a0 : Option Addr) (len0 cap0 : Nat) (z0 : List Int) (w : World) (w0 : IsRow .u8 w a0 len0 cap0 z0) :
    Calls Try.prog 8 #[.slice a0 len0 cap0] w fun e w' => e = .returned (.bool true) ∧ Below w.heap.size w w' := by
  have ha := code_of_row w0
  obtain ⟨hl0, hm0⟩ := ha.1
  unfold maxLen at hm0
  clear w0
  by_cases h : len0 ≤ 1048576
  case' neg =>
    have hd : decide (1048576 < (len0 : Int)) = true := by simp; omega
    go_enter Try.func8, Try.ntmps8
    go_wp2
    go_ret
    exact ⟨rfl, Below.refl _ _⟩
  have hd : decide (1048576 < (len0 : Int)) = false := by simp; omega
  go_enter Try.func8, Try.ntmps8
  go_wp2_with fail
  refine (drawFlagsClean a0 len0 cap0 _ ha).mono ?_
  rintro e w1 ⟨a, b, c, d, zs, fs, rfl, ⟨hl13, hcap⟩, ⟨hf13, hfcap⟩, hB, hL1, hM1, k1⟩
  have hz := fcL_len zs fs
  have HB := Lib.hid hB
  clear ha hB
  go_wp2_with fail
  refine (fc_impl a b c d zs fs _ hL1 hM1 (by omega) (by omega)).mono ?_
  rintro e w2 ⟨p, q, rfl, hF2, k2⟩
  go_wp2_with fail
  refine (fc_spec a b c d zs fs _ (hL1.keep k2) (hM1.keep k2) (by omega) (by omega)).mono ?_
  rintro e w3 ⟨p3, q3, rfl, hF3, k3⟩
  have kk : Keep w w3 := (k1.trans k2).trans k3
  have hL := (hL1.keep k2).keep k3
  have hM := (hM1.keep k2).keep k3
  have hO := hF2.ls.keep k3
  have hW := hF3.ls
  clear hF2 hF3 hL1 hM1
  rcases Bool.eq_false_or_eq_true (fcOk zs fs) with hs | hs
  case' inr =>
    generalize fcL zs fs = L at *
    rw [hs]
    clear hs
    go_wp2_with fail
    refine (sI_eq p p3 q q3 L _ hO hW (by omega)).mono ?_
    rintro e w5 ⟨rfl, k5⟩
    go_wp2_with fail
    refine (sI_eq p p3 q q3 L _ (hO.keep k5) (hW.keep k5) (by omega)).mono ?_
    rintro e w7 ⟨rfl, k7⟩
    go_wp2
    go_ret
    exact ⟨rfl, (kk.trans k5).trans k7⟩
  obtain ⟨hq, hfl, hfa⟩ := fcOk_facts hs
  obtain ⟨hl1, hl12⟩ := (sq_facts hq).2
  have HQ := Lib.hid hq
  have HOK := Lib.hid hs
  have HFL := Lib.hid hfl
  have HFA := Lib.hid (fun k (hk : k < fs.length) => fl_bd' (all_at hfa hk))
  have HY := Lib.hid (fcL_yes hs)
  have HG : Hid (∀ k, k < zs.length → (fcL zs fs).getD k 0 = fcv (zs.getD k 0) (fs.getD k 0)) := Lib.hid (fun k hk => by rw [HY.out, fcl_at hk])
  have HLn : Hid ((fcL zs fs).length = zs.length) := Lib.hid (by rw [HY.out, fcl_len])
  rw [hs]
  clear hs hq hfl hfa
  generalize fcL zs fs = L at *
  have hle : L.length ≤ zs.length := by have := HLn.out; omega
  have hge : zs.length ≤ L.length := by have := HLn.out; omega
  have hle2 : fs.length ≤ zs.length := by have := HFL.out; omega
  have hge2 : zs.length ≤ fs.length := by have := HFL.out; omega
  go_wp2_with fail
  refine (sI_eq p p3 q q3 L _ hO hW (by omega)).mono ?_
  rintro e w4 ⟨rfl, k5⟩
  have L4 := Lib.hid (hL.keep k5)
  have M4 := Lib.hid (hM.keep k5)
  have O4 := Lib.hid (hO.keep k5)
  have K4 : Keep w w4 := kk.trans k5
  clear hL hM hO hW k1 k2 k3 k5 kk
  have HE : Hid (fcL L fs = L ∧ fcOk L fs = true ∧ sk L = (knN L L.length : Int) ∧ sk zs = (knN zs zs.length : Int) ∧ knN L L.length ≤ knN zs zs.length) := Lib.hid (by
    have h1 : fcOk L fs = true := by rw [HY.out]; exact fcl_ok HOK.out
    have h2 : sqB L = true := by rw [HY.out]; exact fcl_valid HQ.out
    refine ⟨by rw [fcL_yes h1, HY.out, fcl_twice], h1, sk_yes h2, sk_yes HQ.out, ?_⟩
    rw [HLn.out]
    refine knN_mono (fun k => ?_) _
    by_cases hk : k < zs.length
    · rw [HG.out k hk]
      unfold fcv
      split
      · exact .inr rfl
      · exact .inl rfl
    · right
      have e1 : L.getD k 0 = 0 := by have := HLn.out; simp [List.getD_eq_getElem?_getD, List.getElem?_eq_none (show L.length ≤ k by omega)]
      have e2 : zs.getD k 0 = 0 := by simp [List.getD_eq_getElem?_getD, List.getElem?_eq_none (show zs.length ≤ k by omega)]
      rw [e1, e2])
  have HF := Lib.hid (fc_impl p b q d L fs w4 O4.out M4.out (by omega) (by omega))
  go_wp2_with fail
  refine HF.out.mono ?_
  rintro e w6 ⟨p6, q6, rfl, hF6, k6⟩
  rw [HE.out.1] at hF6 ⊢
  rw [HE.out.2.1]
  clear HF
  go_wp2_with fail
  refine (sI_eq p6 p q6 q L _ hF6.ls (O4.out.keep k6) (by omega)).mono ?_
  rintro e w7 ⟨rfl, k7⟩
  have O7 := (O4.out.keep k6).keep k7
  have L7 := (L4.out.keep k6).keep k7
  go_wp2_with fail
  refine (sk_impl p q L _ O7 (by omega)).mono ?_
  rintro e w8 ⟨rfl, rfl⟩
  go_wp2_with fail
  refine (sk_impl a c zs _ L7 (by omega)).mono ?_
  rintro e w8 ⟨rfl, rfl⟩
  have hle3 : decide (sk L ≤ sk zs) = true := decide_eq_true (by have := HE.out; omega)
  go_wp2
  go_ret
  exact ⟨rfl, (K4.trans k6).trans k7⟩
end Go.Proofs.Ytaghgapkjdkkfaa
