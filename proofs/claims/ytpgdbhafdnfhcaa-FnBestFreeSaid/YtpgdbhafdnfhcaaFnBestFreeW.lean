/- P80: without a price each change is cut. -/
import Derived.Test.YtpgdbhafdnfhcaaDrBe
import Derived.Test.YtpgdbhafdnfhcaaBi
import Derived.Test.YtpgdbhafdnfhcaaBp
import Derived.Test.YtpgdbhafdnfhcaaBl
import Derived.Test.YtpgdbhafdnfhcaaLw
import Derived.Test.YtpgdbhafdnfhcaaFr
import Derived.Deep.QuietTactic
import Derived.BigQuiet
import Derived.LoopTactic
import Derived.IntWalk
namespace Go.Proofs.Ytpgdbhafdnfhcaa
open Go.RowKit
set_option linter.unusedVariables false

set_option maxRecDepth 100000 in
set_option maxHeartbeats 6400000 in
theorem walk_FnBestFree (a0 : Option Addr) (len0 cap0 : Nat) (z0 : List Int) (w : World) (w0 : IsRow .u8 w a0 len0 cap0 z0) :
    Calls Try.prog 8 #[.slice a0 len0 cap0] w fun e w' => e = .returned (.bool true) ∧ Below w.heap.size w w' := by
  have ha := code_of_row w0
  obtain ⟨hl0, hm0⟩ := ha.1
  unfold maxLen at hm0
  clear w0
  by_cases h : len0 ≤ 1048576
  case' neg =>
    have hd : decide (1048576 < (len0 : Int)) = true := by simp; omega
    go_enter Try.func8, Try.ntmps8
    go_wp2
    go_ret
    exact ⟨rfl, Below.refl _ _⟩
  have hd : decide (1048576 < (len0 : Int)) = false := by simp; omega
  go_enter Try.func8, Try.ntmps8
  go_wp2_with fail
  refine (drawCutsBest a0 len0 cap0 _ ha).mono ?_
  rintro e w1 ⟨a, ca, zs, price, rfl, ⟨hl11, hca⟩, hL1, ⟨hx0, hx1⟩, k1⟩
  clear ha
  go_wp2_with fail
  refine (cb_impl a ca zs price _ hL1 (by omega) hca).mono ?_
  rintro e w2 ⟨p, q, rfl, hq, hF2, k2⟩
  go_wp2_with fail
  refine (cb_spec a ca zs price _ (hL1.keep k2) (by omega) hca).mono ?_
  rintro e w3 ⟨p3, q3, rfl, hq3, hF3, k3⟩
  have K3 : Keep w1 w3 := k2.trans k3
  have hO := hF2.ls.keep k3
  have hW := hF3.ls
  have hL := hL1.keep K3
  have KF := k1.trans K3
  clear hF2 hF3 k2 k3 hL1 K3 k1
  rcases Bool.eq_false_or_eq_true (cbOk zs price) with hs | hs
  case' inr =>
    have hz : (cbL zs price).length ≤ 0 := Nat.le_of_eq (congrArg List.length (cbL_no hs))
    generalize cbL zs price = L at *
    rw [hs]
    clear hs
    go_wp2_with fail
    refine (sI_eq p p3 q q3 L _ hO hW (by omega)).mono ?_
    rintro e w5 ⟨rfl, k5⟩
    go_wp2_with fail
    refine (sI_eq p p3 q q3 L _ (hO.keep k5) (hW.keep k5) (by omega)).mono ?_
    rintro e w7 ⟨rfl, k7⟩
    go_wp2
    go_ret
    exact ⟨rfl, (KF.trans k5).trans k7⟩
  obtain ⟨c1, c2, ⟨c3, c4⟩, c5, c6⟩ := cb_cost hs
  have hs2 : cbOk zs 0 = true := by
    obtain ⟨x1, x2, x3, x4⟩ := cbOk_facts hs
    rw [cbOk, x1]; rfl
  obtain ⟨f1, f2⟩ := cb_free hs2
  have hx7 := (cb_cost hs2).2.2.2.1
  have HI := Lib.hid (fun W (k : Keep w3 W) => cb_impl a ca zs 0 W (hL.keep k) (by omega) hca)
  have HCC := Lib.hid (fun W (k : Keep w3 W) (x : Option Addr) (c : Nat) (hx : Ls W x (cbL zs 0)) => cc_impl a x ca c zs (cbL zs 0) 0 W (hL.keep k) hx hca (by omega) (by omega))
  rw [f1] at HCC
  rw [hs2] at HI
  rw [hs]
  have HF2 := Lib.hid f2
  have HLz := Lib.hid hL
  clear hs hs2 c1 c2 c3 c4 c6 f1 f2 hL
  generalize cbL zs price = L at *
  generalize cbL zs 0 = L2 at *
  go_wp2_with fail
  refine (sI_eq p p3 q q3 L _ hO hW (by omega)).mono ?_
  rintro e w4 ⟨rfl, k4⟩
  go_wp2_with fail
  refine (HI.out _ k4).mono ?_
  rintro e w5 ⟨x, c, rfl, hxc, hF, k5⟩
  have K5 := KF.trans (k4.trans k5)
  have HZ := Lib.hid ((HLz.out.keep k4).keep k5)
  have HX := Lib.hid hF.ls
  have HC5 := Lib.hid (fun W (k : Keep w5 W) => HCC.out W ((k4.trans k5).trans k) x c (hF.ls.keep k))
  clear HLz hF HI HCC k4 k5 hO hW
  go_wp2_with fail
  go_loopw [11] (fun i wr => ∃ k : Nat, k ≤ L2.length ∧ i = .int .i64 k ∧ Keep w5 wr) (fun i _ => L2.length - (intOf i).toNat)
  case atStart => exact ⟨0, by omega, rfl, Keep.refl _⟩
  case round =>
    obtain ⟨k, hk, rfl, hK⟩ := hrel
    by_cases hlt : k < L2.length
    · obtain ⟨d, hd, hd1, hdn, hne⟩ := HF2.out k hlt
      obtain ⟨bx, ox, rfl, -, cx⟩ := (HX.out.keep hK).at_ hlt
      obtain ⟨bz, oz, rfl, -, cz⟩ := (HZ.out.keep hK).at_ (show d < zs.length by omega)
      obtain ⟨bz', oz', he, -, cz'⟩ := (HZ.out.keep hK).at_ (show d - 1 < zs.length by omega)
      injection he with he
      injection he with he1 he2 _
      subst he1
      subst he2
      rw [hd] at cx
      have k0 : (0 : Int) ≤ (k : Int) := by omega
      have k1 : (k : Int) < (L2.length : Int) := by omega
      have d0 : (0 : Int) ≤ (d : Int) := by omega
      have d1 : (d : Int) < (zs.length : Int) := by omega
      obtain ⟨d', hd'⟩ : ∃ d', d - 1 = d' := ⟨_, rfl⟩
      have hsub : (d : Int) - 1 = (d' : Int) := by omega
      have hsw : IntKind.i64.wrap ((d : Int) - 1) = (d' : Int) := by rw [hsub]; exact IntWalk.i64_in _ (by omega)
      have e0 : (0 : Int) ≤ (d' : Int) := by omega
      have e1 : (d' : Int) < (zs.length : Int) := by omega
      rw [hd'] at cz' hne
      have hnb : (zs.getD d 0 == zs.getD d' 0) = false := beq_eq_false_iff_ne.2 hne
      clear hd hd' hne
      generalize zs.getD d 0 = y at cz hnb
      generalize zs.getD d' 0 = y' at cz' hnb
      go_wp2_with fail
      go_quiet (fail)
      go_wp2
      go_roundw
      case rel => exact ⟨k + 1, by omega, by go_num, hK.drewN _⟩
      case measure => simp [intOf]; omega
    · obtain rfl : k = L2.length := by omega
      have HC6 := Lib.hid (HC5.out wr hK)
      go_wp2_with fail
      refine HC6.out.mono ?_
      rintro e w6 ⟨rfl, k6⟩
      go_wp2
      go_ret
      exact ⟨rfl, (K5.trans hK).trans k6⟩
end Go.Proofs.Ytpgdbhafdnfhcaa
