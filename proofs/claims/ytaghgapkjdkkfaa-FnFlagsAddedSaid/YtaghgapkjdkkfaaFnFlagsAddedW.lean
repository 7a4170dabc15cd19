/- P46: only differences count for steps. -/
import Derived.Test.YtaghgapkjdkkfaaDrSq
import Derived.Test.YtaghgapkjdkkfaaFo
import Derived.Test.YtaghgapkjdkkfaaLw
import Derived.Test.YtaghgapkjdkkfaaFr
import Derived.LoopTactic
import Derived.IntWalk
namespace Go.Proofs.Ytaghgapkjdkkfaa
open Go.RowKit
set_option linter.unusedVariables false

set_option maxRecDepth 100000 in
set_option maxHeartbeats 6400000 in
theorem walk_FnFlagsAdded (a0 : Option Addr) (len0 cap0 : Nat) (z0 : List Int) (w : World) (w0 : IsRow .u8 w a0 len0 cap0 z0) :
    Calls Try.prog 6 #[.slice a0 len0 cap0] w fun e w' => e = .returned (.bool true) ∧ Below w.heap.size w w' := by
  have ha := code_of_row w0
  obtain ⟨hl0, hm0⟩ := ha.1
  unfold maxLen at hm0
  clear w0
  by_cases h : len0 ≤ 1048576
  case' neg =>
    have hd : decide (1048576 < (len0 : Int)) = true := by simp; omega
    go_enter Try.func6, Try.ntmps6
    go_wp2
    go_ret
    exact ⟨rfl, Below.refl _ _⟩
  have hd : decide (1048576 < (len0 : Int)) = false := by simp; omega
  go_enter Try.func6, Try.ntmps6
  go_wp2_with fail
  refine (drawFlagsOf a0 len0 cap0 _ ha).mono ?_
  rintro e w1 ⟨a, c, zs, lo, hi, st, rfl, hl13, hcap, hB, hL1, ⟨lo0, lo1⟩, ⟨hi0, hi1⟩, ⟨st0, st1⟩, k1⟩
  have hz := foL_len zs lo hi st
  have HB := Lib.hid hB
  clear ha hB
  go_wp2_with fail
  refine (fo_impl a c zs lo hi st _ hL1 (by omega)).mono ?_
  rintro e w2 ⟨p, q, rfl, hF2, k2⟩
  go_wp2_with fail
  refine (fo_spec a c zs lo hi st _ (hL1.keep k2) (by omega)).mono ?_
  rintro e w3 ⟨p3, q3, rfl, hF3, k3⟩
  have kk : Keep w w3 := (k1.trans k2).trans k3
  have hL := (hL1.keep k2).keep k3
  have hO := hF2.ls.keep k3
  have hW := hF3.ls
  clear hF2 hF3 hL1
  rcases Bool.eq_false_or_eq_true (foOk zs st) with hs | hs
  case' inr =>
    generalize foL zs lo hi st = L at *
    rw [hs]
    clear hs
    go_wp2_with fail
    refine (sI_eq p p3 q q3 L _ hO hW (by omega)).mono ?_
    rintro e w5 ⟨rfl, k5⟩
    go_wp2_with fail
    refine (sI_eq p p3 q q3 L _ (hO.keep k5) (hW.keep k5) (by omega)).mono ?_
    rintro e w7 ⟨rfl, k7⟩
    go_wp2
    go_ret
    exact ⟨rfl, (kk.trans k5).trans k7⟩
  obtain ⟨hq, s0, s1⟩ := foOk_facts hs
  obtain ⟨hl1, hl12⟩ := (sq_facts hq).2
  have HQ := Lib.hid hq
  have HY := Lib.hid (foL_yes (lo := lo) (hi := hi) hs)
  have HG : Hid (∀ k, k < zs.length → (foL zs lo hi st).getD k 0 = fl zs lo hi st k) := Lib.hid (fun k hk => by rw [HY.out, flL_at hk])
  have HLn : Hid ((foL zs lo hi st).length = zs.length) := Lib.hid (by rw [HY.out, flL_len])
  rw [hs]
  clear hs hq 
  generalize foL zs lo hi st = L at *
  have hle : L.length ≤ zs.length := by have := HLn.out; omega
  have hge : zs.length ≤ L.length := by have := HLn.out; omega
  go_wp2_with fail
  refine (sI_eq p p3 q q3 L _ hO hW (by omega)).mono ?_
  rintro e w4 ⟨rfl, k5⟩
  have L4 := Lib.hid (hL.keep k5)
  have O4 := Lib.hid (hO.keep k5)
  have K4 : Keep w w4 := kk.trans k5
  clear hL hO hW k1 k2 k3 k5 kk
  go_wp2_with fail
  refine (added_any a c zs _ L4.out HB.out (by omega)).mono ?_
  rintro e w5 ⟨g5, c5, rfl, hc5, hW5, hg5, hl5, k5⟩
  rw [List.length_map]
  have HL5 := Lib.hid (hW5.ls)
  have HF := Lib.hid (fo_impl (some ⟨g5, 0, none⟩) c5 (zs.map add1) (lo + 1) (hi + 1) st w5 HL5.out (by rw [List.length_map]; omega))
  rw [List.length_map] at HF
  go_wp2_with fail
  refine HF.out.mono ?_
  rintro e w6 ⟨p6, q6, rfl, hF6, k6⟩
  rcases Bool.eq_false_or_eq_true (foOk (zs.map add1) st) with hs6 | hs6
  case' inr =>
    generalize foL (zs.map add1) (lo + 1) (hi + 1) st = L6 at *
    rw [hs6]
    go_wp2
    go_ret
    exact ⟨rfl, (K4.trans k5).trans k6⟩
  have HE : Hid (foL (zs.map add1) (lo + 1) (hi + 1) st = L) := Lib.hid (by rw [foL_yes hs6, flL_add HQ.out]; exact HY.out.symm)
  rw [HE.out] at hF6 ⊢
  rw [hs6]
  clear hs6 HE HF
  go_wp2_with fail
  refine (sI_eq p6 p q6 q L _ hF6.ls ((O4.out.keep k5).keep k6) (by omega)).mono ?_
  rintro e w7 ⟨rfl, k7⟩
  go_wp2
  go_ret
  exact ⟨rfl, ((K4.trans k5).trans k6).trans k7⟩
end Go.Proofs.Ytaghgapkjdkkfaa
