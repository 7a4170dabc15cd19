/- P132: the sum of a day. -/
import Derived.Test.YtdccpdclpidnbacSo2
import Derived.Test.YtdccpdclpidnbacSs
import Derived.Test.YtdccpdclpidnbacDrNo
import Derived.Test.YtdccpdclpidnbacSb
import Derived.LoopTactic
import Derived.Deep.QuietTactic
import Derived.BigQuiet
import Derived.Deep.RegionLaw
import Derived.Deep.RegionWith
import Derived.IntWalk
namespace Go.Proofs.Ytdccpdclpidnbac
open Go.RowKit
set_option linter.unusedVariables false

set_option maxRecDepth 100000 in
set_option maxHeartbeats 6400000 in
theorem walk_FnSumBetweenDays (a0 : Option Addr) (len0 cap0 : Nat) (z0 : List Int) (a1 : Option Addr) (len1 cap1 : Nat) (z1 : List Int) (w : World) (w0 : IsRow .u8 w a0 len0 cap0 z0) (w1 : IsRow .u8 w a1 len1 cap1 z1) :
    Calls Try.prog 12 #[.slice a0 len0 cap0, .slice a1 len1 cap1] w fun e w' => e = .returned (.bool true) ∧ Below w.heap.size w w' := by
  have ha := code_of_row w0
  obtain ⟨hl0, hm0⟩ := ha.1
  unfold maxLen at hm0
  clear w0
  have ha1 := code_of_row w1
  obtain ⟨hl1', hm1'⟩ := ha1.1
  unfold maxLen at hm1'
  clear w1 ha1
  by_cases h : len0 ≤ 1048576
  case' neg =>
    have hd : decide (1048576 < (len0 : Int)) = true := by simp; omega
    go_enter Try.func12, Try.ntmps12
    go_wp2
    go_ret
    exact ⟨rfl, Below.refl _ _⟩
  have hd : decide (1048576 < (len0 : Int)) = false := by simp; omega
  by_cases h1 : len1 ≤ 1048576
  case' neg =>
    have hd1 : decide (1048576 < (len1 : Int)) = true := by simp; omega
    go_enter Try.func12, Try.ntmps12
    go_wp2
    go_ret
    exact ⟨rfl, Below.refl _ _⟩
  have hd1 : decide (1048576 < (len1 : Int)) = false := by simp; omega
  go_enter Try.func12, Try.ntmps12
  go_wp2_with fail
  refine (drawSumsOf a0 len0 cap0 _ ha).mono ?_
  rintro e w1 ⟨a, c, zs, rfl, hl13, hcap, hB, hL1, k1⟩
  clear ha hB
  go_wp2_with fail
  refine (su_impl a c zs _ hL1 (by omega)).mono ?_
  rintro e w2 ⟨p, q, rfl, hpq, hF2, k2⟩
  go_wp2_with fail
  refine (su_spec a c zs _ (hL1.keep k2) (by omega)).mono ?_
  rintro e w3 ⟨p3, q3, rfl, hpq3, hF3, k3⟩
  have kk : Keep w w3 := (k1.trans k2).trans k3
  have hL := (hL1.keep k2).keep k3
  have hO := hF2.rr.keep k3
  have hW := hF3.rr
  clear hF2 hF3 hL1 hpq hpq3
  rcases Bool.eq_false_or_eq_true (sqB zs) with hs | hs
  case' inr =>
    have hlen := suL_len zs
    generalize suL zs = L at *
    rw [hs]
    clear hs
    go_wp2_with fail
    refine (sS_eq p p3 q q3 L _ hO hW (by omega)).mono ?_
    rintro e w5 ⟨rfl, k5⟩
    go_wp2_with fail
    refine (sS_eq p p3 q q3 L _ (hO.keep k5) (hW.keep k5) (by omega)).mono ?_
    rintro e w7 ⟨rfl, k7⟩
    go_wp2
    go_ret
    exact ⟨rfl, (kk.trans k5).trans k7⟩
  obtain ⟨hl1, hl12⟩ := (sq_facts hs).2
  have HG : Hid (∀ k, k ≤ zs.length → (suL zs).getD k u0 = su zs k) := Lib.hid (fun k hk => by rw [suL_yes hs]; exact sul_at hk)
  have HLn : Hid ((suL zs).length = zs.length + 1) := Lib.hid (by rw [suL_yes hs, sul_len])
  have HSb : Hid (∀ (f t : Nat), f ≤ t → t ≤ zs.length → sbB (suL zs) (f : Int) (t : Int) = true ∧ sbV (suL zs) (f : Int) (t : Int) = ((su zs t).1 - (su zs f).1, (su zs t).2 - (su zs f).2)) := Lib.hid (fun f t hf ht => by rw [suL_yes hs]; exact sb_sul hs hf ht)
  have HBd := Lib.hid (fun (k : Nat) (hk : k ≤ zs.length) => su_bd hs hk)
  have HSd : Hid (∀ k, k < zs.length → (zs.getD k 0 = -9999 → sbV (suL zs) (k : Int) ((k : Int) + 1) = (0, 0)) ∧ (zs.getD k 0 ≠ -9999 → sbV (suL zs) (k : Int) ((k : Int) + 1) = (zs.getD k 0, 1))) := Lib.hid (fun k hk => by rw [suL_yes hs]; exact sb_day hs hk)
  have HAt := Lib.hid (fun (k : Nat) (hk : k < zs.length) => sq_at hs hk)
  rw [hs]
  generalize suL zs = L at *
  have hle : L.length ≤ zs.length + 1 := by have := HLn.out; omega
  have hge : zs.length + 1 ≤ L.length := by have := HLn.out; omega
  clear hs
  go_wp2_with fail
  refine (sS_eq p p3 q q3 L _ hO hW (by omega)).mono ?_
  rintro e w4 ⟨rfl, k5⟩
  have L4 := Lib.hid (hL.keep k5)
  have O4 := Lib.hid (hO.keep k5)
  have W4 := Lib.hid (hW.keep k5)
  have K4 : Keep w w4 := kk.trans k5
  clear hL hO hW k1 k2 k3 k5 kk
  obtain ⟨k, hk⟩ : ∃ k, len1 % zs.length = k := ⟨_, rfl⟩
  have hkL : k < zs.length := by rw [← hk]; exact Nat.mod_lt _ (by omega)
  have ht : Int.tmod (len1 : Int) (zs.length : Int) = (k : Int) := by rw [← hk]; exact (Int.ofNat_tmod len1 zs.length).symm
  have ht2 : (len1 : Int) % (zs.length : Int) = (k : Int) := by omega
  clear hk
  have kw : IntKind.i64.wrap (k : Int) = (k : Int) := IntWalk.i64_in _ ⟨by omega, by omega⟩
  have n0 : ((zs.length : Int) == 0) = false := beq_eq_false_iff_ne.2 (by omega)
  have n1 : ¬ ((zs.length : Int) = 0) := by omega
  have n2 : (zs.length : Int) ≠ -1 := by omega
  have n3 : ¬ (zs.length = 0) := by omega
  have n4 : ¬ (zs = []) := by intro h; rw [h] at n3; simp at n3
  have k0 : (0 : Int) ≤ (k : Int) := by omega
  obtain ⟨b, off, rfl, hb, hat⟩ := O4.out.all (by omega)
  obtain ⟨b2, off2, rfl, hb2, cz⟩ := L4.out.at_ hkL
  clear hat
  have bx := HAt.out k hkL
  obtain ⟨m, hm⟩ : ∃ m, k + 1 = m := ⟨_, rfl⟩
  have me : (k : Int) + 1 = (m : Int) := by omega
  have HC := Lib.hid (fun W (h : Keep w4 W) => sb_impl _ q L (k : Int) (m : Int) W (O4.out.keep h) (by omega) (by omega) (by omega) (by omega) (by omega))
  have HV := HSd.out k hkL
  rw [me] at HV
  have hBt := (HSb.out k m (by omega) (by omega)).1
  rw [hBt] at HC
  have mw : IntKind.i64.wrap ((k : Int) + 1) = (m : Int) := by rw [me]; exact IntWalk.i64_in _ ⟨by omega, by omega⟩
  have kz : (k : Int) < (zs.length : Int) := by omega
  clear me hm hBt
  generalize zs.getD k 0 = x at *
  by_cases hx : x = -9999
  · rw [HV.1 hx] at HC
    subst hx
    clear HV
    go_wp2_with fail
    refine (HC.out _ (Keep.refl _)).mono ?_
    rintro e w5 ⟨rfl, k5⟩
    have kB := k5.alloc (.cells #[.int .i64 0, .int .i64 0] 41)
    have cz' := kB.cell cz
    clear cz
    go_wp2
    go_ret
    exact ⟨rfl, K4.trans kB⟩
  · rw [HV.2 hx] at HC
    have xe : (x == -9999) = false := beq_eq_false_iff_ne.2 hx
    clear HV
    go_wp2_with fail
    refine (HC.out _ (Keep.refl _)).mono ?_
    rintro e w5 ⟨rfl, k5⟩
    have kB := k5.alloc (.cells #[.int .i64 x, .int .i64 1] 41)
    have cz' := kB.cell cz
    clear cz
    go_wp2_with fail
    go_quiet (fail)
    go_wp2
    go_ret
    exact ⟨rfl, (K4.trans kB).drewN _⟩

end Go.Proofs.Ytdccpdclpidnbac
