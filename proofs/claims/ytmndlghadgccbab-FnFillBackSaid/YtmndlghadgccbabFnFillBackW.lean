/- P69: days have no direction. -/
import Derived.Test.YtmndlghadgccbabDrGp
import Derived.Test.YtmndlghadgccbabGl
import Derived.Test.YtmndlghadgccbabGq
import Derived.Test.YtmndlghadgccbabGf
import Derived.Test.YtmndlghadgccbabGc
import Derived.Test.YtmndlghadgccbabLw
import Derived.Test.YtmndlghadgccbabFr
import Derived.LoopTactic
import Derived.IntWalk
namespace Go.Proofs.Ytmndlghadgccbab
open Go.RowKit
set_option linter.unusedVariables false

set_option maxRecDepth 100000 in
set_option maxHeartbeats 6400000 in
theorem walk_FnFillBack (a0 : Option Addr) (len0 cap0 : Nat) (z0 : List Int) (w : World) (w0 : IsRow .u8 w a0 len0 cap0 z0) :
    Calls Try.prog 6 #[.slice a0 len0 cap0] w fun e w' => e = .returned (.bool true) ∧ Below w.heap.size w w' := by
  have ha := code_of_row w0
  obtain ⟨hl0, hm0⟩ := ha.1
  unfold maxLen at hm0
  clear w0
  by_cases h : len0 ≤ 1048576
  case' neg =>
    have hd : decide (1048576 < (len0 : Int)) = true := by simp; omega
    go_enter Try.func6, Try.ntmps6
    go_wp2
    go_ret
    exact ⟨rfl, Below.refl _ _⟩
  have hd : decide (1048576 < (len0 : Int)) = false := by simp; omega
  go_enter Try.func6, Try.ntmps6
  go_wp2_with fail
  refine (drawFillOf a0 len0 cap0 _ ha).mono ?_
  rintro e w1 ⟨a, c, zs, lo, hi, st, rfl, hl13, hcap, hB, hL1, hlo, hhi, hst, k1⟩
  clear ha hB
  go_wp2_with fail
  refine (fi_impl a c zs lo hi st _ hL1 (by omega)).mono ?_
  rintro e w2 ⟨p2, q2, rfl, hq2, hF2, k2⟩
  go_wp2_with fail
  refine (fi_spec a c zs lo hi st _ (hL1.keep k2) (by omega)).mono ?_
  rintro e w3 ⟨p3, q3, rfl, hq3, hF3, k3⟩
  have K3 : Keep w w3 := (k1.trans k2).trans k3
  have hL := (hL1.keep k2).keep k3
  have hR2 := hF2.rr.keep k3
  have hR3 := hF3.rr
  clear hF2 hF3 hL1 k1 k2 k3
  rcases Bool.eq_false_or_eq_true (gOk zs lo hi st) with hs | hs
  case' inr =>
    rw [gRL_no hs] at hR2 hR3 ⊢
    rw [hs]
    have HSm := Lib.hid (fun W (k : Keep w3 W) => sG_same p2 p3 q2 q3 0 [] W (hR2.keep k) (hR3.keep k) rfl (by omega))
    clear hs hR2 hR3 hq2 hq3
    go_wp2_with fail
    refine (HSm.out _ (Keep.refl _)).mono ?_
    rintro e w4 ⟨rfl, k4⟩
    go_wp2_with fail
    refine (HSm.out _ k4).mono ?_
    rintro e w5 ⟨rfl, k5⟩
    go_wp2
    go_ret
    exact ⟨rfl, (K3.trans k4).trans k5⟩
  rw [gRL_yes hs] at hR2 hR3 hq2 hq3 ⊢
  rw [gRl_len] at hq2 hq3
  rw [hs, gRl_len]
  have HOK := Lib.hid hs
  obtain ⟨hga, hle⟩ := gOk_facts hs
  obtain ⟨hsq, ⟨hlo', hhi'⟩, hlh, hst0, hst1⟩ := gaB_facts hga
  obtain ⟨hl1, hl12⟩ := (sq_facts hsq).2
  have HLE := Lib.hid hle
  have HSm := Lib.hid (fun W (k : Keep w3 W) => sG_same p2 p3 q2 q3 zs.length _ W (hR2.keep k) (hR3.keep k) (gRl_len zs lo hi st) (by omega))
  have HO0 := Lib.hid hR2
  clear hs hga hle hsq hR2 hR3
  go_wp2_with fail
  refine (HSm.out _ (Keep.refl _)).mono ?_
  rintro e w4 ⟨rfl, k4⟩
  have HSm4 := Lib.hid (HSm.out w4 k4)
  have K4 : Keep w w4 := K3.trans k4
  have HL := Lib.hid (hL.keep k4)
  have HO := Lib.hid (HO0.out.keep k4)
  clear HSm HO0 hL K3 k4
  obtain ⟨b2, o2, rfl, hb2, hoc⟩ := HO.out.all (by rw [gRl_len]; omega)
  have HOC : Hid (∀ i, i < zs.length → At2 w4 b2 (o2 + i * 2) (gL zs lo st i, gH zs hi st i)) := Lib.hid (fun i hi' => by
    have := hoc i (by rw [gRl_len]; exact hi')
    rwa [gRl_at hi'] at this)
  clear hoc
  have HOK6 := Lib.hid (gOk_rev HOK.out)
  have HBK := Lib.hid (back_any a c zs w4 HL.out (by omega))
  have HFI := Lib.hid (fun g cc W (h : Ls W (some ⟨g, 0, none⟩) zs.reverse) => fi_impl (some ⟨g, 0, none⟩) cc zs.reverse lo hi st W h (by rw [List.length_reverse]; omega))
  rw [List.length_reverse] at HFI
  go_wp2_with fail
  refine HBK.out.mono ?_
  rintro e w5 ⟨g5, c5, rfl, hc5, hW5, hg5, hl5, k5⟩
  rw [List.length_reverse]
  go_wp2_with fail
  refine (HFI.out g5 c5 _ hW5.ls).mono ?_
  rintro e w6 ⟨p6, q6, rfl, hq6, hF6, k6⟩
  have HR6 := Lib.hid hF6.rr
  rw [gRL_yes HOK6.out] at HR6 hq6 ⊢
  rw [gRl_len, List.length_reverse] at hq6
  rw [HOK6.out, gRl_len, List.length_reverse]
  clear hF6 HFI HBK hW5
  obtain ⟨b6, o6, rfl, hb6, hoc6⟩ := HR6.out.all (by rw [gRl_len, List.length_reverse]; omega)
  have HC6 : Hid (∀ i j, i + j + 1 = zs.length → At2 w6 b6 (o6 + i * 2) (gL zs lo st j, gH zs hi st j)) := Lib.hid (fun i j hij => by
    have := hoc6 i (by rw [gRl_len, List.length_reverse]; omega)
    rwa [gRl_at (by rw [List.length_reverse]; omega), gL_rev lo st (by omega), gH_rev hi st (by omega), show zs.length - 1 - i = j by omega] at this)
  clear hoc6
  go_wp2_with fail
  go_loopw [13] (fun i wr => ∃ k : Nat, k ≤ zs.length ∧ i = .int .i64 k ∧ Keep w6 wr) (fun i _ => zs.length - (intOf i).toNat)
  case atStart => exact ⟨0, by omega, rfl, Keep.refl _⟩
  case round =>
    obtain ⟨k, hk, rfl, hK⟩ := hrel
    by_cases hlt : k < zs.length
    case' neg =>
      obtain rfl : k = zs.length := by omega
      go_wp2
      go_ret
      exact ⟨rfl, ((K4.trans k5).trans k6).trans hK⟩
    obtain ⟨j, hj⟩ : ∃ j, k + j + 1 = zs.length := ⟨zs.length - 1 - k, by omega⟩
    obtain ⟨c0, c1⟩ := HOC.out j (by omega)
    obtain ⟨f0, f1⟩ := HC6.out k j hj
    have d0 : wr.cell? ⟨b2, o2 + j * 2, none⟩ = some (.int .i64 (gL zs lo st j)) := hK.cell (k6.cell (k5.cell c0))
    have d1 : wr.cell? ⟨b2, o2 + j * 2 + 1, none⟩ = some (.int .i64 (gH zs hi st j)) := hK.cell (k6.cell (k5.cell c1))
    have m0 : wr.cell? ⟨b6, o6 + k * 2, none⟩ = some (.int .i64 (gL zs lo st j)) := hK.cell f0
    have m1 : wr.cell? ⟨b6, o6 + k * 2 + 1, none⟩ = some (.int .i64 (gH zs hi st j)) := hK.cell f1
    have k0 : (0 : Int) ≤ (k : Int) := by omega
    have kz : (k : Int) < (zs.length : Int) := by omega
    have j0 : (0 : Int) ≤ (j : Int) := by omega
    have jz : (j : Int) < (zs.length : Int) := by omega
    have ej : (zs.length : Int) - 1 - (k : Int) = (j : Int) := by omega
    clear c0 c1 f0 f1
    generalize gL zs lo st j = x at *
    generalize gH zs hi st j = y at *
    clear hj
    go_wp2_with fail
    go_quiet (fail)
    go_wp2
    go_roundw
    case rel => exact ⟨k + 1, by omega, by go_num, hK.drewN _⟩
    case measure => simp [intOf]; omega
end Go.Proofs.Ytmndlghadgccbab
