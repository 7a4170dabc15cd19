/- P66: values that agree are in the ranges. -/
import Derived.Test.YtmndlghadgccbabDrGf
import Derived.Test.YtmndlghadgccbabGl
import Derived.Test.YtmndlghadgccbabGq
import Derived.Test.YtmndlghadgccbabGf
import Derived.Test.YtmndlghadgccbabGc
import Derived.Test.YtmndlghadgccbabFr
import Derived.LoopTactic
import Derived.IntWalk
namespace Go.Proofs.Ytmndlghadgccbab
open Go.RowKit
set_option linter.unusedVariables false

set_option maxRecDepth 100000 in
set_option maxHeartbeats 6400000 in
theorem walk_FnFill (a0 : Option Addr) (len0 cap0 : Nat) (z0 : List Int) (w : World) (w0 : IsRow .u8 w a0 len0 cap0 z0) :
    Calls Try.prog 3 #[.slice a0 len0 cap0] w fun e w' => e = .returned (.bool true) ∧ Below w.heap.size w w' := by
  have ha := code_of_row w0
  obtain ⟨hl0, hm0⟩ := ha.1
  unfold maxLen at hm0
  clear w0
  by_cases h : len0 ≤ 1048576
  case' neg =>
    have hd : decide (1048576 < (len0 : Int)) = true := by simp; omega
    go_enter Try.func3, Try.ntmps3
    go_wp2
    go_ret
    exact ⟨rfl, Below.refl _ _⟩
  have hd : decide (1048576 < (len0 : Int)) = false := by simp; omega
  go_enter Try.func3, Try.ntmps3
  go_wp2_with fail
  refine (drawFillFits a0 len0 cap0 _ ha).mono ?_
  rintro e w1 ⟨a, b, c, d, zs, ds, lo, hi, st, rfl, ⟨hl13, hcz⟩, ⟨hd13, hcd⟩, hL1, hD1, k1⟩
  clear ha
  go_wp2_with fail
  refine (ff_impl a b c d zs ds lo hi st _ hL1 hD1 (by omega) (by omega)).mono ?_
  rintro e w2 ⟨rfl, k2⟩
  go_wp2_with fail
  refine (ff_spec a b c d zs ds lo hi st _ (hL1.keep k2) (hD1.keep k2) (by omega) (by omega)).mono ?_
  rintro e w3 ⟨rfl, k3⟩
  have K3 : Keep w w3 := (k1.trans k2).trans k3
  have HL := Lib.hid ((hL1.keep k2).keep k3)
  have HD := Lib.hid ((hD1.keep k2).keep k3)
  clear hL1 hD1 k1 k2 k3
  rcases Bool.eq_false_or_eq_true (ffV zs ds lo hi st) with hs | hs
  case' inr =>
    rw [hs]
    go_wp2
    go_ret
    exact ⟨rfl, K3⟩
  have HV := Lib.hid hs
  have hlen := (ffV_facts hs).2.1
  have hga := (ffV_facts hs).1
  obtain ⟨hsq, ⟨hlo', hhi'⟩, hlh, hst0, hst1⟩ := gaB_facts hga
  obtain ⟨hl1, hl12⟩ := (sq_facts hsq).2
  rw [hs]
  clear hs hga hsq
  have HOK := Lib.hid (ff_ok HV.out)
  have HFI := Lib.hid (fi_impl a c zs lo hi st w3 HL.out (by omega))
  have HIN := Lib.hid (fun i (hi' : i < zs.length) => ff_in HV.out hi')
  rw [hlen]
  rw [hlen] at hcd
  have HLen := Lib.hid hlen
  clear hlen hd13
  go_wp2_with fail
  refine HFI.out.mono ?_
  rintro e w6 ⟨p6, q6, rfl, hq6, hF6, k6⟩
  have HR6 := Lib.hid hF6.rr
  rw [gRL_yes HOK.out] at HR6 hq6 ⊢
  rw [gRl_len] at hq6
  rw [HOK.out, gRl_len]
  clear hF6 HFI
  obtain ⟨b6, o6, rfl, hb6, hoc6⟩ := HR6.out.all (by rw [gRl_len]; omega)
  have HC6 : Hid (∀ i, i < zs.length → At2 w6 b6 (o6 + i * 2) (gL zs lo st i, gH zs hi st i)) := Lib.hid (fun i hi' => by
    have := hoc6 i (by rw [gRl_len]; exact hi')
    rwa [gRl_at hi'] at this)
  clear hoc6
  obtain ⟨bd, od, rfl, hbd, hdc⟩ := HD.out.all (by rw [HLen.out]; omega)
  have HDC := Lib.hid hdc
  clear hdc
  go_wp2_with fail
  go_loopw [12] (fun i wr => ∃ k : Nat, k ≤ zs.length ∧ i = .int .i64 k ∧ Keep w6 wr) (fun i _ => zs.length - (intOf i).toNat)
  case atStart => exact ⟨0, by omega, rfl, Keep.refl _⟩
  case round =>
    obtain ⟨k, hk, rfl, hK⟩ := hrel
    by_cases hlt : k < zs.length
    case' neg =>
      obtain rfl : k = zs.length := by omega
      go_wp2
      go_ret
      exact ⟨rfl, (K3.trans k6).trans hK⟩
    obtain ⟨f0, f1⟩ := HC6.out k hlt
    have hin := HIN.out k hlt
    have d0 : wr.cell? ⟨bd, od + k, none⟩ = some (.int .i64 (ds.getD k 0)) := hK.cell (k6.cell (HDC.out k (by rw [HLen.out]; exact hlt)))
    have m0 : wr.cell? ⟨b6, o6 + k * 2, none⟩ = some (.int .i64 (gL zs lo st k)) := hK.cell f0
    have m1 : wr.cell? ⟨b6, o6 + k * 2 + 1, none⟩ = some (.int .i64 (gH zs hi st k)) := hK.cell f1
    have k0 : (0 : Int) ≤ (k : Int) := by omega
    have kz : (k : Int) < (zs.length : Int) := by omega
    clear f0 f1
    generalize gL zs lo st k = x at *
    generalize gH zs hi st k = y at *
    generalize ds.getD k 0 = v at *
    have e1 : decide (v < x) = false := decide_eq_false (by omega)
    have e2 : decide (y < v) = false := decide_eq_false (by omega)
    go_wp2_with fail
    go_quiet (fail)
    go_wp2
    go_roundw
    case rel => exact ⟨k + 1, by omega, by go_num, hK.drewN _⟩
    case measure => simp [intOf]; omega
end Go.Proofs.Ytmndlghadgccbab
