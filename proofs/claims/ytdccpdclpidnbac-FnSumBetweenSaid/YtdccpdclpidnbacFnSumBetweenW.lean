/- P132: a sum of days and the rest. -/
import Derived.Test.YtdccpdclpidnbacSo2
import Derived.Test.YtdccpdclpidnbacSs
import Derived.Test.YtdccpdclpidnbacDrNo
import Derived.Test.YtdccpdclpidnbacSb
import Derived.LoopTactic
import Derived.Deep.QuietTactic
import Derived.BigQuiet
import Derived.Deep.RegionLaw
import Derived.Deep.RegionWith
import Derived.IntWalk
namespace Go.Proofs.Ytdccpdclpidnbac
open Go.RowKit
set_option linter.unusedVariables false

set_option maxRecDepth 100000 in
set_option maxHeartbeats 6400000 in
theorem walk_FnSumBetween (a0 : Option Addr) (len0 cap0 : Nat) (z0 : List Int) (a1 : Option Addr) (len1 cap1 : Nat) (z1 : List Int) (w : World) (w0 : IsRow .u8 w a0 len0 cap0 z0) (w1 : IsRow .u8 w a1 len1 cap1 z1) :
    Calls Try.prog 11 #[.slice a0 len0 cap0, .slice a1 len1 cap1] w fun e w' => e = .returned (.bool true) ∧ Below w.heap.size w w' := by
  have ha := code_of_row w0
  obtain ⟨hl0, hm0⟩ := ha.1
  unfold maxLen at hm0
  clear w0
  have ha1 := code_of_row w1
  obtain ⟨hl1', hm1'⟩ := ha1.1
  unfold maxLen at hm1'
  clear w1 ha1
  by_cases h : len0 ≤ 1048576
  case' neg =>
    have hd : decide (1048576 < (len0 : Int)) = true := by simp; omega
    go_enter Try.func11, Try.ntmps11
    go_wp2
    go_ret
    exact ⟨rfl, Below.refl _ _⟩
  have hd : decide (1048576 < (len0 : Int)) = false := by simp; omega
  by_cases h1 : len1 ≤ 1048576
  case' neg =>
    have hd1 : decide (1048576 < (len1 : Int)) = true := by simp; omega
    go_enter Try.func11, Try.ntmps11
    go_wp2
    go_ret
    exact ⟨rfl, Below.refl _ _⟩
  have hd1 : decide (1048576 < (len1 : Int)) = false := by simp; omega
  go_enter Try.func11, Try.ntmps11
  go_wp2_with fail
  refine (drawSumsOf a0 len0 cap0 _ ha).mono ?_
  rintro e w1 ⟨a, c, zs, rfl, hl13, hcap, hB, hL1, k1⟩
  clear ha hB
  go_wp2_with fail
  refine (su_impl a c zs _ hL1 (by omega)).mono ?_
  rintro e w2 ⟨p, q, rfl, hpq, hF2, k2⟩
  go_wp2_with fail
  refine (su_spec a c zs _ (hL1.keep k2) (by omega)).mono ?_
  rintro e w3 ⟨p3, q3, rfl, hpq3, hF3, k3⟩
  have kk : Keep w w3 := (k1.trans k2).trans k3
  have hL := (hL1.keep k2).keep k3
  have hO := hF2.rr.keep k3
  have hW := hF3.rr
  clear hF2 hF3 hL1 hpq hpq3
  rcases Bool.eq_false_or_eq_true (sqB zs) with hs | hs
  case' inr =>
    have hlen := suL_len zs
    generalize suL zs = L at *
    rw [hs]
    clear hs
    go_wp2_with fail
    refine (sS_eq p p3 q q3 L _ hO hW (by omega)).mono ?_
    rintro e w5 ⟨rfl, k5⟩
    go_wp2_with fail
    refine (sS_eq p p3 q q3 L _ (hO.keep k5) (hW.keep k5) (by omega)).mono ?_
    rintro e w7 ⟨rfl, k7⟩
    go_wp2
    go_ret
    exact ⟨rfl, (kk.trans k5).trans k7⟩
  obtain ⟨hl1, hl12⟩ := (sq_facts hs).2
  have HG : Hid (∀ k, k ≤ zs.length → (suL zs).getD k u0 = su zs k) := Lib.hid (fun k hk => by rw [suL_yes hs]; exact sul_at hk)
  have HLn : Hid ((suL zs).length = zs.length + 1) := Lib.hid (by rw [suL_yes hs, sul_len])
  have HSb : Hid (∀ (f t : Nat), f ≤ t → t ≤ zs.length → sbB (suL zs) (f : Int) (t : Int) = true ∧ sbV (suL zs) (f : Int) (t : Int) = ((su zs t).1 - (su zs f).1, (su zs t).2 - (su zs f).2)) := Lib.hid (fun f t hf ht => by rw [suL_yes hs]; exact sb_sul hs hf ht)
  have HBd := Lib.hid (fun (k : Nat) (hk : k ≤ zs.length) => su_bd hs hk)
  have HSd : Hid (∀ k, k < zs.length → (zs.getD k 0 = -9999 → sbV (suL zs) (k : Int) ((k : Int) + 1) = (0, 0)) ∧ (zs.getD k 0 ≠ -9999 → sbV (suL zs) (k : Int) ((k : Int) + 1) = (zs.getD k 0, 1))) := Lib.hid (fun k hk => by rw [suL_yes hs]; exact sb_day hs hk)
  rw [hs]
  generalize suL zs = L at *
  have hle : L.length ≤ zs.length + 1 := by have := HLn.out; omega
  have hge : zs.length + 1 ≤ L.length := by have := HLn.out; omega
  clear hs
  go_wp2_with fail
  refine (sS_eq p p3 q q3 L _ hO hW (by omega)).mono ?_
  rintro e w4 ⟨rfl, k5⟩
  have L4 := Lib.hid (hL.keep k5)
  have O4 := Lib.hid (hO.keep k5)
  have W4 := Lib.hid (hW.keep k5)
  have K4 : Keep w w4 := kk.trans k5
  clear hL hO hW k1 k2 k3 k5 kk
  obtain ⟨k, hk⟩ : ∃ k, len1 % L.length = k := ⟨_, rfl⟩
  have hkL : k < L.length := by rw [← hk]; exact Nat.mod_lt _ (by omega)
  have ht : Int.tmod (len1 : Int) (L.length : Int) = (k : Int) := by rw [← hk]; exact (Int.ofNat_tmod len1 L.length).symm
  have ht2 : (len1 : Int) % (L.length : Int) = (k : Int) := by omega
  clear hk
  have kw : IntKind.i64.wrap (k : Int) = (k : Int) := IntWalk.i64_in _ ⟨by omega, by omega⟩
  have n0 : ((L.length : Int) == 0) = false := beq_eq_false_iff_ne.2 (by omega)
  have n1 : ¬ ((L.length : Int) = 0) := by omega
  have n2 : (L.length : Int) ≠ -1 := by omega
  have n3 : ¬ (L.length = 0) := by omega
  have n4 : ¬ (L = []) := by intro h; rw [h] at n3; simp at n3
  have k0 : (0 : Int) ≤ (k : Int) := by omega
  obtain ⟨b, off, rfl, hb, hat⟩ := O4.out.all (by omega)
  obtain ⟨x0, x1⟩ := hat k hkL
  obtain ⟨y0, y1⟩ := hat zs.length (by omega)
  rw [HG.out k (by omega)] at x0 x1
  rw [HG.out zs.length (Nat.le_refl _)] at y0 y1
  clear hat
  have e1v : sbV L 0 (k : Int) = su zs k := by
    have h := (HSb.out 0 k (by omega) (by omega)).2
    rw [su_zero] at h
    simp only [Int.sub_zero] at h
    exact h
  have HC1 := Lib.hid (fun W (h : Keep w4 W) => sb_impl _ q L 0 (k : Int) W (O4.out.keep h) (by omega) (by omega) (by omega) (by omega) (by omega))
  have HC2 := Lib.hid (fun W (h : Keep w4 W) => sb_impl _ q L (k : Int) (zs.length : Int) W (O4.out.keep h) (by omega) (by omega) (by omega) (by omega) (by omega))
  have e1b : sbB L 0 (k : Int) = true := (HSb.out 0 k (by omega) (by omega)).1
  rw [e1v, e1b] at HC1
  rw [(HSb.out k zs.length (by omega) (Nat.le_refl _)).1, (HSb.out k zs.length (by omega) (Nat.le_refl _)).2] at HC2
  clear e1v e1b
  obtain ⟨⟨b0, b1⟩, b2', b3'⟩ := HBd.out k (by omega)
  obtain ⟨⟨d0, d1⟩, d2', d3'⟩ := HBd.out zs.length (Nat.le_refl _)
  generalize su zs k = s0 at *
  generalize su zs zs.length = s9 at *
  obtain ⟨t, n⟩ := s0
  obtain ⟨T, N⟩ := s9
  unfold uL at x0 y0
  unfold uH at x1 y1
  dsimp only at x0 x1 y0 y1 b0 b1 b2' b3' d0 d1 d2' d3'
  have mw : IntKind.i64.wrap ((L.length : Int) - 1) = (zs.length : Int) := by rw [show (L.length : Int) - 1 = (zs.length : Int) by omega]; exact IntWalk.i64_in (zs.length : Int) ⟨by omega, by omega⟩
  have m0 : (0 : Int) ≤ (zs.length : Int) := by omega
  have mz : (zs.length : Int) < (L.length : Int) := by omega
  have kz : (k : Int) < (L.length : Int) := by omega
  have aw1 : IntKind.i64.wrap (t + (T - t)) = T := by rw [show t + (T - t) = T by omega]; exact IntWalk.i64_in _ ⟨by omega, by omega⟩
  have aw2 : IntKind.i64.wrap (n + (N - n)) = N := by rw [show n + (N - n) = N by omega]; exact IntWalk.i64_in _ ⟨by omega, by omega⟩
  have aw3 : IntKind.i64.wrap T = T := IntWalk.i64_in _ ⟨by omega, by omega⟩
  have aw4 : IntKind.i64.wrap N = N := IntWalk.i64_in _ ⟨by omega, by omega⟩
  go_wp2_with fail
  refine (HC1.out _ (Keep.refl _)).mono ?_
  rintro e w5 ⟨rfl, k5⟩
  go_wp2_with fail
  refine (HC2.out _ (k5.alloc _)).mono ?_
  rintro e w6 ⟨rfl, k6⟩
  have k46 : Keep w4 w6 := (k5.alloc _).trans k6
  have X0 := k46.cell x0
  have X1 := k46.cell x1
  have Y0 := k46.cell y0
  have Y1 := k46.cell y1
  have A0 : w6.cell? ⟨w5.heap.size, 0, none⟩ = some (.int .i64 t) := k6.new 0 rfl
  have A1 : w6.cell? ⟨w5.heap.size, 1, none⟩ = some (.int .i64 n) := k6.new 1 rfl
  have kB : Keep w6 (w6.alloc (.cells #[.int .i64 (T - t), .int .i64 (N - n)] 41)) := (Keep.refl w6).alloc _
  have Y0' := kB.cell Y0
  have Y1' := kB.cell Y1
  have kC := kB.alloc (.cells #[.int .i64 T, .int .i64 N] 41)
  have X0' := kC.cell X0
  have X1' := kC.cell X1
  have A0' := kC.cell A0
  have A1' := kC.cell A1
  clear kB x0 x1 y0 y1 X0 X1 Y0 Y1 A0 A1
  go_wp2_with fail
  go_quiet (fail)
  go_wp2
  go_ret
  exact ⟨rfl, (K4.trans (k46.trans kC)).drewN _⟩

end Go.Proofs.Ytdccpdclpidnbac
