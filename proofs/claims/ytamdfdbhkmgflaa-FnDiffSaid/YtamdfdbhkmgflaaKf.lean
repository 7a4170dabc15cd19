/- Keys made compact: the walk of slices.Compact. -/
import Derived.Test.YtamdfdbhkmgflaaKe
import Derived.Deep.QuietTactic
namespace Go.Proofs.Ytamdfdbhkmgflaa
open Go.RowKit
set_option linter.unusedVariables false

theorem Only.drewK {B : Nat} {w w' : World} (h : Only B w w') (n : Nat) : Only B w (w'.drewN n) := ⟨h.os, h.tape, h.output, h.size, h.block⟩
theorem WrK.drewN {w : World} {g : Nat} {ys : List K3} (h : WrK w g ys) (n : Nat) : WrK (w.drewN n) g ys := h.keep ((Keep.refl w).drewN n)
theorem Only.put3 {B : Nat} {w w' : World} (h : Only B w w') (o : Nat) (r : K3) : Only B w (put3 w' B o r) := ((h.put1 o _).put1 (o + 1) _).put1 (o + 2) _
set_option maxRecDepth 100000 in
set_option maxHeartbeats 4000000 in
theorem compK (g cap : Nat) (ys : List K3) (w : World) (h : WrK w g ys) (hg : g < w.heap.size) (hm : ys.length ≤ 1048576) (hcap : ys.length ≤ cap) :
    Calls Try.prog 45 #[.slice (some ⟨g, 0, none⟩) ys.length cap] w fun e w' => e = .returned (.slice (some ⟨g, 0, none⟩) (kcp ys).length cap) ∧ Only g w w' ∧ WrK w' g (kcp ys) := by
  by_cases h2 : ys.length < 2
  · have e : kcp ys = ys := by
      match ys, h2 with
      | [], _ => rfl
      | [a], _ => rfl
    rw [e]
    go_enter Try.func45, Try.ntmps45
    go_wp2
    go_ret
    exact ⟨rfl, Only.refl _ _, h⟩
  have HW0 := Lib.hid h
  clear h
  go_enter Try.func45, Try.ntmps45
  go_wp2_with fail
  go_loopw [3] (fun p wr => ∃ k : Nat, 1 ≤ k ∧ k ≤ ys.length ∧ p = .int .i64 k ∧ Hid (kcp (ys.take k) = ys.take k) ∧ Hid (WrK wr g ys) ∧ Only g w wr) (fun p _ => ys.length - (intOf p).toNat)
  case atStart => exact ⟨1, by omega, by omega, rfl, Lib.hid (by match ys, h2 with | [], h => exact absurd (by simp) h | [a], h => exact absurd (by simp) h | a :: b :: l, _ => rfl), HW0, Only.refl _ _⟩
  case round =>
    obtain ⟨k, hk1, hk, rfl, HT, HW, hO⟩ := hrel
    by_cases hlt : k < ys.length
    · obtain ⟨⟨c0, c1, c2⟩, _⟩ := HW.out k hlt
      obtain ⟨⟨d0, d1, d2⟩, _⟩ := HW.out (k - 1) (by omega)
      have HS := Lib.hid (kcp_take hk1 hlt)
      have hcase := k_case (ys.getD k k0) (ys.getD (k - 1) k0)
      have q1 : (0 : Int) ≤ (k : Int) := by omega
      have q2 : (k : Int) < (ys.length : Int) := by omega
      have q3 : (0 : Int) ≤ (k : Int) - 1 := by omega
      have q4 : (k : Int) - 1 < (ys.length : Int) := by omega
      have q6 : IntKind.i64.wrap ((k : Int) - 1) = (k : Int) - 1 := IntWalk.i64_in _ (by omega)
      have q5 : ((k : Int) - 1).toNat = k - 1 := by omega
      rcases hcase with ⟨hne, e0⟩ | ⟨hne, e0, e1⟩ | ⟨hne, e0, e1, e2⟩ | he
      case' inr.inr.inr =>
        rw [← he] at d0 d1 d2
        have HK : Hid (ys.take k = kcp (ys.take (k + 1))) := Lib.hid (by rw [HS.out, if_pos he.symm, HT.out])
        have hcn : ¬ cap = k := by omega
        have hcn2 : (cap == k) = false := beq_eq_false_iff_ne.2 hcn
        clear HS he HT
        generalize kS (ys.getD k k0) = x0 at *
        generalize kD (ys.getD k k0) = x1 at *
        generalize kT (ys.getD k k0) = x2 at *
        go_wp2_with fail
        go_quiet (fail)
        clear q6 q5 c0 c1 c2 d0 d1 d2
        have HW1 := Lib.hid (HW.out.drewN nq)
        have hO1 := hO.drewK nq
        go_wp2_with fail
        go_loopw [3, 5] (fun p q wr => ∃ (n j : Nat) (zs : List K3), 1 ≤ j ∧ k + j ≤ ys.length ∧ n < k + j ∧ p = .int .i64 n ∧ q = .int .i64 j ∧ Hid (zs.length = ys.length) ∧ Hid (zs.take n = kcp (ys.take (k + j))) ∧ Hid (∀ i, n ≤ i → zs.getD i k0 = ys.getD i k0) ∧ Hid (WrK wr g zs) ∧ Only g w wr) (fun _ q _ => ys.length - k - (intOf q).toNat)
        case atStart => exact ⟨k, 1, ys, by omega, by omega, by omega, rfl, rfl, Lib.hid rfl, HK, Lib.hid (fun _ _ => rfl), HW1, hO1⟩
        case round =>
          obtain ⟨n, j, zs, hj1, hj, hn, rfl, rfl, HL, HT, HR, HV, hP⟩ := hrel
          by_cases hjt : k + j < ys.length
          · obtain ⟨⟨c0, c1, c2⟩, _⟩ := HV.out (k + j) (by rw [HL.out]; exact hjt)
            obtain ⟨⟨d0, d1, d2⟩, _⟩ := HV.out (k + (j - 1)) (by rw [HL.out]; omega)
            obtain ⟨⟨b0, b1, b2⟩, ⟨f0, f1, f2⟩⟩ := HV.out n (by rw [HL.out]; omega)
            rw [HR.out (k + j) (by omega), Nat.add_mul] at c0 c1 c2
            rw [HR.out (k + (j - 1)) (by omega), Nat.add_mul] at d0 d1 d2
            have HS := Lib.hid (kcp_take (ys := ys) (k := k + j) (by omega) hjt)
            rw [show k + j - 1 = k + (j - 1) by omega] at HS
            have hcase := k_case (ys.getD (k + j) k0) (ys.getD (k + (j - 1)) k0)
            have HR2 : Hid (∀ i, n ≤ i → zs.getD i k0 = ys.getD i k0) := HR
            have q1 : (0 : Int) ≤ (j : Int) := by omega
            have q2 : (j : Int) < ((ys.length - k : Nat) : Int) := by omega
            have q3 : (0 : Int) ≤ (j : Int) - 1 := by omega
            have q4 : (j : Int) - 1 < ((ys.length - k : Nat) : Int) := by omega
            have q6 : IntKind.i64.wrap ((j : Int) - 1) = (j : Int) - 1 := IntWalk.i64_in _ (by omega)
            have q5 : ((j : Int) - 1).toNat = j - 1 := by omega
            have p1 : (0 : Int) ≤ (n : Int) := by omega
            have p2 : (n : Int) < (ys.length : Int) := by omega
            rcases hcase with ⟨hne, e0⟩ | ⟨hne, e0, e1⟩ | ⟨hne, e0, e1, e2⟩ | he
            case' inr.inr.inr =>
              rw [← he] at d0 d1 d2
              have HN : Hid (zs.take n = kcp (ys.take (k + (j + 1)))) := Lib.hid (by rw [show k + (j + 1) = k + j + 1 by omega, HS.out, if_pos he.symm, HT.out])
              clear HS he HT b0 b1 b2 f0 f1 f2
              generalize kS (ys.getD (k + j) k0) = x0 at *
              generalize kD (ys.getD (k + j) k0) = x1 at *
              generalize kT (ys.getD (k + j) k0) = x2 at *
              go_wp2_with fail
              go_quiet (fail)
              clear q6 q5
              go_wp2
              go_roundw
              case rel => exact ⟨n, j + 1, zs, by omega, by omega, by omega, rfl, by go_num, HL, HN, HR, Lib.hid (HV.out.drewN nq), hP.drewK nq⟩
              case measure => simp [intOf]; omega
            all_goals
              have HN : Hid ((zs.set n (ys.getD (k + j) k0)).take (n + 1) = kcp (ys.take (k + (j + 1)))) := Lib.hid (by
                rw [show k + (j + 1) = k + j + 1 by omega, HS.out, if_neg (fun e => hne e.symm), kset_snoc (by rw [HL.out]; omega), HT.out])
              have HR3 : Hid (∀ i, n + 1 ≤ i → (zs.set n (ys.getD (k + j) k0)).getD i k0 = ys.getD i k0) := Lib.hid (fun i hi => by
                rw [← HR.out i (by omega)]
                simp [List.getD_eq_getElem?_getD, List.getElem?_set_ne (show n ≠ i by omega)])
              have HL2 : Hid ((zs.set n (ys.getD (k + j) k0)).length = ys.length) := Lib.hid (by rw [List.length_set]; exact HL.out)
              have HV2 : Hid (∀ m, WrK (put3 (wr.drewN m) g (n * 3) (ys.getD (k + j) k0)) g (zs.set n (ys.getD (k + j) k0))) := Lib.hid (fun m => (HV.out.drewN m).set (by rw [HL.out]; omega) _)
              have HP2 : Hid (∀ m, Only g w (put3 (wr.drewN m) g (n * 3) (ys.getD (k + j) k0))) := Lib.hid (fun m => (hP.drewK m).put3 _ _)
              clear HS hne HT HR HR2
              generalize zs.set n (ys.getD (k + j) k0) = zs2 at *
              generalize ys.getD (k + j) k0 = X at *
              obtain ⟨x0, x1, x2⟩ := X
              generalize kS (ys.getD (k + (j - 1)) k0) = y0 at *
              generalize kD (ys.getD (k + (j - 1)) k0) = y1 at *
              generalize kT (ys.getD (k + (j - 1)) k0) = y2 at *
              simp only [kS, kD, kT] at *
              go_wp2_with fail
              go_quiet (fail)
              clear q6 q5
              go_wp2
              go_roundw
              case rel => exact ⟨n + 1, j + 1, zs2, by omega, by omega, by omega, by go_num, by go_num, HL2, HN, HR3, Lib.hid (HV2.out nq), HP2.out nq⟩
              case measure => simp [intOf]; omega
          · obtain rfl : j = ys.length - k := by omega
            have HT2 : Hid (zs.take n = kcp ys) := Lib.hid (by rw [HT.out, show k + (ys.length - k) = ys.length by omega, List.take_length])
            have HN : Hid (n = (kcp ys).length) := Lib.hid (by rw [← HT2.out, List.length_take, HL.out]; omega)
            have hcl : ∀ ty, (Builtin.clear_ #[26] ty #[.slice (some ⟨g, n * 3, none⟩) (ys.length - n) (cap - n)]).run Try.prog wr = .ok (.tuple #[]) (wr.setCells g (n * 3) (zk (ys.length - n))) :=
              fun ty => clearK wr ty g (n * 3) (ys.length - n) (cap - n) (by omega) (fun i hi => (wrK_some HV.out (by rw [HL.out]; omega)).1) (fun i hi => (wrK_some HV.out (by rw [HL.out]; omega)).2)
            have hcm : ¬ cap = n := by omega
            have hcm2 : (cap == n) = false := beq_eq_false_iff_ne.2 hcm
            clear HT
            go_wp2_with (simp only [hcl])
            go_ret
            refine ⟨?_, only_setK _ _ _ hP, ?_⟩
            · rw [← HN.out]; rfl
            · rw [← HT2.out]; exact wrK_clear HV.out n _
      all_goals
        have HN : Hid (kcp (ys.take (k + 1)) = ys.take (k + 1)) := Lib.hid (by
          rw [HS.out, if_neg (fun e => hne e.symm), HT.out, List.take_succ_eq_append_getElem hlt]
          simp [List.getD_eq_getElem?_getD, hlt])
        clear HS hne HT
        generalize kS (ys.getD k k0) = x0 at *
        generalize kD (ys.getD k k0) = x1 at *
        generalize kT (ys.getD k k0) = x2 at *
        generalize kS (ys.getD (k - 1) k0) = y0 at *
        generalize kD (ys.getD (k - 1) k0) = y1 at *
        generalize kT (ys.getD (k - 1) k0) = y2 at *
        go_wp2_with fail
        go_quiet (fail)
        clear q6 q5
        go_wp2
        go_roundw
        case rel => exact ⟨k + 1, by omega, by omega, by go_num, HN, Lib.hid (HW.out.drewN nq), hO.drewK nq⟩
        case measure => simp [intOf]; omega
    · obtain rfl : k = ys.length := by omega
      have HF : Hid (kcp ys = ys) := Lib.hid (by have := HT.out; rwa [List.take_length] at this)
      go_wp2
      go_ret
      exact ⟨by rw [HF.out]; rfl, hO, by rw [HF.out]; exact HW.out⟩
end Go.Proofs.Ytamdfdbhkmgflaa
