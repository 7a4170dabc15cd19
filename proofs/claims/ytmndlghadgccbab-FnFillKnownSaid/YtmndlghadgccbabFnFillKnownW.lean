/- P68: a value that is there is kept. -/
import Derived.Test.YtmndlghadgccbabDrGp
import Derived.Test.YtmndlghadgccbabGl
import Derived.Test.YtmndlghadgccbabGq
import Derived.Test.YtmndlghadgccbabGf
import Derived.Test.YtmndlghadgccbabGc
import Derived.Test.YtmndlghadgccbabLw
import Derived.Test.YtmndlghadgccbabFr
import Derived.LoopTactic
import Derived.IntWalk
namespace Go.Proofs.Ytmndlghadgccbab
open Go.RowKit
set_option linter.unusedVariables false

set_option maxRecDepth 100000 in
set_option maxHeartbeats 6400000 in
theorem walk_FnFillKnown (a0 : Option Addr) (len0 cap0 : Nat) (z0 : List Int) (w : World) (w0 : IsRow .u8 w a0 len0 cap0 z0) :
    Calls Try.prog 5 #[.slice a0 len0 cap0] w fun e w' => e = .returned (.bool true) ∧ Below w.heap.size w w' := by
  have ha := code_of_row w0
  obtain ⟨hl0, hm0⟩ := ha.1
  unfold maxLen at hm0
  clear w0
  by_cases h : len0 ≤ 1048576
  case' neg =>
    have hd : decide (1048576 < (len0 : Int)) = true := by simp; omega
    go_enter Try.func5, Try.ntmps5
    go_wp2
    go_ret
    exact ⟨rfl, Below.refl _ _⟩
  have hd : decide (1048576 < (len0 : Int)) = false := by simp; omega
  go_enter Try.func5, Try.ntmps5
  go_wp2_with fail
  refine (drawFillOf a0 len0 cap0 _ ha).mono ?_
  rintro e w1 ⟨a, c, zs, lo, hi, st, rfl, hl13, hcap, hB, hL1, hlo, hhi, hst, k1⟩
  clear ha hB
  go_wp2_with fail
  refine (fi_impl a c zs lo hi st _ hL1 (by omega)).mono ?_
  rintro e w2 ⟨p2, q2, rfl, hq2, hF2, k2⟩
  go_wp2_with fail
  refine (fi_spec a c zs lo hi st _ (hL1.keep k2) (by omega)).mono ?_
  rintro e w3 ⟨p3, q3, rfl, hq3, hF3, k3⟩
  have K3 : Keep w w3 := (k1.trans k2).trans k3
  have hL := (hL1.keep k2).keep k3
  have hR2 := hF2.rr.keep k3
  have hR3 := hF3.rr
  clear hF2 hF3 hL1 k1 k2 k3
  rcases Bool.eq_false_or_eq_true (gOk zs lo hi st) with hs | hs
  case' inr =>
    rw [gRL_no hs] at hR2 hR3 ⊢
    rw [hs]
    have HSm := Lib.hid (fun W (k : Keep w3 W) => sG_same p2 p3 q2 q3 0 [] W (hR2.keep k) (hR3.keep k) rfl (by omega))
    clear hs hR2 hR3 hq2 hq3
    go_wp2_with fail
    refine (HSm.out _ (Keep.refl _)).mono ?_
    rintro e w4 ⟨rfl, k4⟩
    go_wp2_with fail
    refine (HSm.out _ k4).mono ?_
    rintro e w5 ⟨rfl, k5⟩
    go_wp2
    go_ret
    exact ⟨rfl, (K3.trans k4).trans k5⟩
  rw [gRL_yes hs] at hR2 hR3 hq2 hq3 ⊢
  rw [gRl_len] at hq2 hq3
  rw [hs, gRl_len]
  have HOK := Lib.hid hs
  obtain ⟨hga, hle⟩ := gOk_facts hs
  obtain ⟨hsq, ⟨hlo', hhi'⟩, hlh, hst0, hst1⟩ := gaB_facts hga
  obtain ⟨hl1, hl12⟩ := (sq_facts hsq).2
  have HLE := Lib.hid hle
  have HSm := Lib.hid (fun W (k : Keep w3 W) => sG_same p2 p3 q2 q3 zs.length _ W (hR2.keep k) (hR3.keep k) (gRl_len zs lo hi st) (by omega))
  have HO0 := Lib.hid hR2
  clear hs hga hle hsq hR2 hR3
  go_wp2_with fail
  refine (HSm.out _ (Keep.refl _)).mono ?_
  rintro e w4 ⟨rfl, k4⟩
  have HSm4 := Lib.hid (HSm.out w4 k4)
  have K4 : Keep w w4 := K3.trans k4
  have HL := Lib.hid (hL.keep k4)
  have HO := Lib.hid (HO0.out.keep k4)
  clear HSm HO0 hL K3 k4
  obtain ⟨b2, o2, rfl, hb2, hoc⟩ := HO.out.all (by rw [gRl_len]; omega)
  have HOC : Hid (∀ i, i < zs.length → At2 w4 b2 (o2 + i * 2) (gL zs lo st i, gH zs hi st i)) := Lib.hid (fun i hi' => by
    have := hoc i (by rw [gRl_len]; exact hi')
    rwa [gRl_at hi'] at this)
  clear hoc
  obtain ⟨bz, oz, rfl, hbz, hzc⟩ := HL.out.all (by omega)
  have HZC := Lib.hid hzc
  clear hzc
  go_wp2_with fail
  go_loopw [11] (fun i wr => ∃ k : Nat, k ≤ zs.length ∧ i = .int .i64 k ∧ Keep w4 wr) (fun i _ => zs.length - (intOf i).toNat)
  case atStart => exact ⟨0, by omega, rfl, Keep.refl _⟩
  case round =>
    obtain ⟨k, hk, rfl, hK⟩ := hrel
    by_cases hlt : k < zs.length
    case' neg =>
      obtain rfl : k = zs.length := by omega
      go_wp2
      go_ret
      exact ⟨rfl, K4.trans hK⟩
    obtain ⟨c0, c1⟩ := HOC.out k hlt
    have cz := hK.cell (HZC.out k hlt)
    have d0 := hK.cell c0
    have d1 := hK.cell c1
    have hb := g_bounds zs lo hi st k
    have hle := HLE.out k hlt
    have hkn : zs.getD k 0 ≠ -9999 → zs.getD k 0 = gL zs lo st k ∧ zs.getD k 0 = gH zs hi st k := fun hn => by
      have := g_known lo hi st hlt hn
      omega
    have k0 : (0 : Int) ≤ (k : Int) := by omega
    have kz : (k : Int) < (zs.length : Int) := by omega
    clear c0 c1
    replace d0 : wr.cell? ⟨b2, o2 + k * 2, none⟩ = some (.int .i64 (gL zs lo st k)) := d0
    replace d1 : wr.cell? ⟨b2, o2 + k * 2 + 1, none⟩ = some (.int .i64 (gH zs hi st k)) := d1
    generalize gL zs lo st k = x at *
    generalize gH zs hi st k = y at *
    have e1 : decide (x < lo) = false := decide_eq_false (by omega)
    have e2 : decide (hi < y) = false := decide_eq_false (by omega)
    have e3 : decide (y < x) = false := decide_eq_false (by omega)
    by_cases hx : zs.getD k 0 = -9999
    · rw [hx] at cz
      clear hx hkn
      go_wp2_with fail
      go_quiet (fail)
      go_wp2
      go_roundw
      case rel => exact ⟨k + 1, by omega, by go_num, hK.drewN _⟩
      case measure => simp [intOf]; omega
    · have hx2 : (zs.getD k 0 != -9999) = true := bne_iff_ne.2 hx
      obtain ⟨f1, f2⟩ := hkn hx
      clear hkn hx
      generalize zs.getD k 0 = z at *
      subst f1
      subst f2
      go_wp2_with fail
      go_quiet (fail)
      go_wp2
      go_roundw
      case rel => exact ⟨k + 1, by omega, by go_num, hK.drewN _⟩
      case measure => simp [intOf]; omega
end Go.Proofs.Ytmndlghadgccbab
