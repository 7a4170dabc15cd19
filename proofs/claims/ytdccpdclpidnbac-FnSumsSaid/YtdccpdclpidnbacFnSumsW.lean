/- P131: sums follow one another. -/
import Derived.Test.YtdccpdclpidnbacSo2
import Derived.Test.YtdccpdclpidnbacSs
import Derived.Test.YtdccpdclpidnbacDrNo
import Derived.Test.YtdccpdclpidnbacSu
import Derived.LoopTactic
import Derived.Deep.QuietTactic
import Derived.BigQuiet
import Derived.Deep.RegionLaw
import Derived.Deep.RegionWith
import Derived.IntWalk
namespace Go.Proofs.Ytdccpdclpidnbac
open Go.RowKit
set_option linter.unusedVariables false

set_option maxRecDepth 100000 in
set_option maxHeartbeats 6400000 in
theorem walk_FnSums (a0 : Option Addr) (len0 cap0 : Nat) (z0 : List Int) (w : World) (w0 : IsRow .u8 w a0 len0 cap0 z0) :
    Calls Try.prog 9 #[.slice a0 len0 cap0] w fun e w' => e = .returned (.bool true) ∧ Below w.heap.size w w' := by
  have ha := code_of_row w0
  obtain ⟨hl0, hm0⟩ := ha.1
  unfold maxLen at hm0
  clear w0
  by_cases h : len0 ≤ 1048576
  case' neg =>
    have hd : decide (1048576 < (len0 : Int)) = true := by simp; omega
    go_enter Try.func9, Try.ntmps9
    go_wp2
    go_ret
    exact ⟨rfl, Below.refl _ _⟩
  have hd : decide (1048576 < (len0 : Int)) = false := by simp; omega
  go_enter Try.func9, Try.ntmps9
  go_wp2_with fail
  refine (drawSumsOf a0 len0 cap0 _ ha).mono ?_
  rintro e w1 ⟨a, c, zs, rfl, hl13, hcap, hB, hL1, k1⟩
  clear ha hB
  go_wp2_with fail
  refine (su_impl a c zs _ hL1 (by omega)).mono ?_
  rintro e w2 ⟨p, q, rfl, hpq, hF2, k2⟩
  go_wp2_with fail
  refine (su_spec a c zs _ (hL1.keep k2) (by omega)).mono ?_
  rintro e w3 ⟨p3, q3, rfl, hpq3, hF3, k3⟩
  have kk : Keep w w3 := (k1.trans k2).trans k3
  have hL := (hL1.keep k2).keep k3
  have hO := hF2.rr.keep k3
  have hW := hF3.rr
  clear hF2 hF3 hL1 hpq hpq3
  rcases Bool.eq_false_or_eq_true (sqB zs) with hs | hs
  case' inr =>
    have hlen := suL_len zs
    generalize suL zs = L at *
    rw [hs]
    clear hs
    go_wp2_with fail
    refine (sS_eq p p3 q q3 L _ hO hW (by omega)).mono ?_
    rintro e w5 ⟨rfl, k5⟩
    go_wp2_with fail
    refine (sS_eq p p3 q q3 L _ (hO.keep k5) (hW.keep k5) (by omega)).mono ?_
    rintro e w7 ⟨rfl, k7⟩
    go_wp2
    go_ret
    exact ⟨rfl, (kk.trans k5).trans k7⟩
  obtain ⟨hl1, hl12⟩ := (sq_facts hs).2
  have HG : Hid (∀ k, k ≤ zs.length → (suL zs).getD k u0 = su zs k) := Lib.hid (fun k hk => by rw [suL_yes hs]; exact sul_at hk)
  have HLn : Hid ((suL zs).length = zs.length + 1) := Lib.hid (by rw [suL_yes hs, sul_len])
  have HAt := Lib.hid (fun (k : Nat) (hk : k < zs.length) => sq_at hs hk)
  have HBd := Lib.hid (fun (k : Nat) (hk : k ≤ zs.length) => su_bd hs hk)
  have HStep := Lib.hid (fun (k : Nat) (hk : k < zs.length) => su_sadd (zs := zs) hk)
  rw [hs]
  generalize suL zs = L at *
  have hle : L.length ≤ zs.length + 1 := by have := HLn.out; omega
  have hge : zs.length + 1 ≤ L.length := by have := HLn.out; omega
  clear hs
  go_wp2_with fail
  refine (sS_eq p p3 q q3 L _ hO hW (by omega)).mono ?_
  rintro e w4 ⟨rfl, k5⟩
  have L4 := Lib.hid (hL.keep k5)
  have O4 := Lib.hid (hO.keep k5)
  have W4 := Lib.hid (hW.keep k5)
  have K4 : Keep w w4 := kk.trans k5
  clear hL hO hW k1 k2 k3 k5 kk
  have W4' := W4
  clear W4'
  have hne : (((L.length : Int) == (zs.length : Int) + 1)) = true := beq_iff_eq.2 (by omega)
  have zw : IntKind.i64.wrap ((zs.length : Int) + 1) = (zs.length : Int) + 1 := IntWalk.i64_in _ ⟨by omega, by omega⟩
  have first0 : ∃ b off, p = some ⟨b, off, none⟩ ∧ b < w4.heap.size ∧ w4.cell? ⟨b, off, none⟩ = some (.int .i64 0) ∧ w4.cell? ⟨b, off + 1, none⟩ = some (.int .i64 0) := by
    obtain ⟨b, off, e, hb, hat⟩ := O4.out.all (by omega)
    obtain ⟨x0, x1⟩ := hat 0 (by omega)
    rw [HG.out 0 (by omega), su_zero] at x0 x1
    exact ⟨b, off, e, hb, by simpa [uL] using x0, by simpa [uH] using x1⟩
  obtain ⟨b2, off2, rfl, hb2, z0, z1⟩ := first0
  have zl : (0 : Int) < (L.length : Int) := by omega
  go_wp2_with fail
  go_loopw [8] (fun i wr => ∃ k : Nat, k ≤ zs.length ∧ i = .int .i64 k ∧ Keep w4 wr) (fun i _ => zs.length - (intOf i).toNat)
  case atStart => exact ⟨0, by omega, rfl, Keep.refl _⟩
  case round =>
    obtain ⟨k, hk, rfl, hKr⟩ := hrel
    by_cases hlt : k < zs.length
    case' neg =>
      obtain rfl : k = zs.length := by omega
      go_wp2
      go_ret
      exact ⟨rfl, K4.trans hKr⟩
    obtain ⟨b, off, rfl, hb, cz⟩ := (L4.out.keep hKr).at_ hlt
    clear z0 z1 hb2
    obtain ⟨b3, off3, e3, hb3, hat⟩ := (O4.out.keep hKr).all (by omega)
    injection e3 with e3
    injection e3 with e4 e5 _
    subst e4; subst e5
    obtain ⟨x0, x1⟩ := hat k (by omega)
    obtain ⟨y0, y1⟩ := hat (k + 1) (by omega)
    rw [HG.out k (by omega)] at x0 x1
    rw [HG.out (k + 1) (by omega), HStep.out k hlt] at y0 y1
    clear hat
    have bx := HAt.out k hlt
    obtain ⟨⟨b0, b1⟩, b2', b3'⟩ := HBd.out k hk
    obtain ⟨m, hm⟩ : ∃ m, k + 1 = m := ⟨_, rfl⟩
    rw [hm] at y0 y1
    have mw : IntKind.i64.wrap ((k : Int) + 1) = (m : Int) := by rw [show (k : Int) + 1 = (m : Int) by omega]; exact IntWalk.i64_in _ ⟨by omega, by omega⟩
    have m0 : (0 : Int) ≤ (m : Int) := by omega
    have mL : (m : Int) < (L.length : Int) := by omega
    have k0 : (0 : Int) ≤ (k : Int) := by omega
    have kz : (k : Int) < (zs.length : Int) := by omega
    have kL : (k : Int) < (L.length : Int) := by omega
    have HM := Lib.hid hm
    clear hm
    generalize su zs k = s0 at *
    generalize zs.getD k 0 = x at *
    obtain ⟨t, n⟩ := s0
    unfold uL at x0 y0
    unfold uH at x1 y1
    dsimp only at x0 x1 b0 b1 b2' b3'
    by_cases hx : x = -9999
    · have es : sadd (t, n) x = (t, n) := by rw [sadd, if_pos hx]
      rw [es] at y0 y1
      dsimp only at y0 y1
      subst hx
      have kA : Keep wr (wr.alloc (.cells #[.int .i64 t, .int .i64 n] 41)) := (Keep.refl wr).alloc _
      have Y0 := kA.cell y0
      have Y1 := kA.cell y1
      clear es
      go_wp2_with fail
      go_quiet (fail)
      go_wp2
      go_roundw
      case rel => exact ⟨k + 1, by omega, by have := HM.out; subst this; go_num, (hKr.alloc _).drewN _⟩
      case measure => have := HM.out; simp [intOf]; omega
    · have es : sadd (t, n) x = (t + x, n + 1) := by rw [sadd, if_neg hx]
      rw [es] at y0 y1
      dsimp only at y0 y1
      clear es
      have xe : (x == -9999) = false := beq_eq_false_iff_ne.2 hx
      have tw : IntKind.i64.wrap (t + x) = t + x := IntWalk.i64_in _ ⟨by omega, by omega⟩
      have nw : IntKind.i64.wrap (n + 1) = n + 1 := IntWalk.i64_in _ ⟨by omega, by omega⟩
      have kA : Keep wr (wr.alloc (.cells #[.int .i64 t, .int .i64 n] 41)) := (Keep.refl wr).alloc _
      have cz' := kA.cell cz
      go_wp2_with fail
      go_region_law (fail)
      all_goals
        have kB : Keep wr (wr.alloc (.cells #[.int .i64 (t + x), .int .i64 (n + 1)] 41)).drew := ((Keep.refl wr).alloc _).drew
        have Y0 := kB.cell y0
        have Y1 := kB.cell y1
        have kC : Keep wr (wr.alloc (.cells #[.int .i64 (t + x), .int .i64 (n + 1)] 41)) := ((Keep.refl wr).alloc _)
        have Z0 := kC.cell y0
        have Z1 := kC.cell y1
        clear cz' kA kC
        go_wp2_with fail
        go_quiet (fail)
        go_wp2
        go_roundw
        case rel => exact ⟨k + 1, by omega, by have := HM.out; subst this; go_num, by first | exact (hKr.trans kB).drewN _ | exact (hKr.alloc _).drewN _⟩
        case measure => have := HM.out; simp [intOf]; omega

end Go.Proofs.Ytdccpdclpidnbac
