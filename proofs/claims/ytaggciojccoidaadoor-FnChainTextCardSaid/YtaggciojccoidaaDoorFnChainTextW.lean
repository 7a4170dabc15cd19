/- P159: a sum continues by the text of a report. -/
import Derived.Test.YtaggciojccoidaaDoorDrCh
import Derived.Test.YtaggciojccoidaaDoorCi
import Derived.Test.YtaggciojccoidaaDoorFr
import Derived.IntWalk
import Derived.LoopTactic
namespace Go.Proofs.YtaggciojccoidaaDoor
open Go.RowKit
set_option linter.unusedVariables false

set_option maxRecDepth 100000 in
set_option maxHeartbeats 6400000 in
theorem walk_FnChainText (a0 : Option Addr) (len0 cap0 : Nat) (z0 : List Int) (w : World) (w0 : IsRow .u8 w a0 len0 cap0 z0) (T : Tabs w) :
    Calls Tryd.prog 4 #[.slice a0 len0 cap0] w fun e w' => e = .returned (.bool true) ∧ Below w.heap.size w w' := by
  have HT := Lib.hid T
  clear T
  have ha := code_of_row w0
  obtain ⟨hl0, hm0⟩ := ha.1
  unfold maxLen at hm0
  clear w0
  by_cases h : len0 ≤ 1048576
  case' neg =>
    have hd : decide (1048576 < (len0 : Int)) = true := by simp; omega
    go_enter Tryd.func4, Tryd.ntmps4
    go_wp2
    go_ret
    exact ⟨rfl, Below.refl _ _⟩
  have hd : decide (1048576 < (len0 : Int)) = false := by simp; omega
  go_enter Tryd.func4, Tryd.ntmps4
  go_wp2_with fail
  refine (drawChainOf a0 len0 cap0 _ ha).mono ?_
  rintro e w1 ⟨gg, c, rs, rfl, hl, hcl, hF, k1⟩
  clear ha
  have hL1 := hF.rs
  have hz := chL_len (rs := rs)
  have HT1 := Lib.hid (HT.out.keep k1)
  go_wp2_with fail
  refine (ch_impl _ c rs _ hL1 (by omega) HT1.out).mono ?_
  rintro e w2 ⟨p, q, rfl, hq, hF2, k2⟩
  go_wp2_with fail
  refine (ch_spec _ c rs _ (hL1.keep k2) (by omega)).mono ?_
  rintro e w3 ⟨p3, q3, rfl, hq3, hF3, k3⟩
  have K3 : Keep w1 w3 := k2.trans k3
  have hO := hF2.ls.keep k3
  have hW := hF3.ls
  go_wp2_with fail
  refine (sI_same p p3 q q3 (chL rs) _ hO hW (by omega)).mono ?_
  rintro e w4 ⟨rfl, k4⟩
  go_wp2_with fail
  refine (sv_spec _ c rs _ ((hL1.keep K3).keep k4) (by omega)).mono ?_
  rintro e w5 ⟨rfl, k5⟩
  have K5 : Keep w1 w5 := (K3.trans k4).trans k5
  have KF := k1.trans K5
  have hO5 := (hO.keep k4).keep k5
  have hW5 := (hW.keep k4).keep k5
  have hL5 := Lib.hid (hL1.keep K5)
  have HT5 := Lib.hid (HT1.out.keep K5)
  clear hF hF2 hF3 k2 k3 k4 k5 hO hW hL1 K3 K5 k1 HT1
  rcases Bool.eq_false_or_eq_true (stB rs) with hs | hs
  case' inr =>
    rw [hs]
    clear hs
    generalize chL rs = L at *
    go_wp2_with fail
    refine (sI_same p p3 q q3 L _ hO5 hW5 (by omega)).mono ?_
    rintro e w7 ⟨rfl, k7⟩
    go_wp2
    go_ret
    exact ⟨rfl, KF.trans k7⟩
  have HSB := Lib.hid hs
  rw [hs]
  have HLn : Hid ((chL rs).length = rs.length) := Lib.hid (by rw [chL_yes hs, chP_len])
  have HAt := Lib.hid (fun k (hk : k < rs.length) W (kW : Keep w5 W) => (hL5.out.keep kW).at_ hk)
  have HVal : Hid (∀ k, k < rs.length → (chL rs).getD k 0 = (chN rs (k + 1) : Int)) := Lib.hid (fun k hk => by rw [chL_yes hs]; exact chP_at rs hk)
  have HO5 := Lib.hid hO5
  have hzl : rs.length ≤ (chL rs).length := Nat.le_of_eq HLn.out.symm
  have hzl2 : (chL rs).length ≤ rs.length := Nat.le_of_eq HLn.out
  have dlq : ((chL rs).length : Int) - (rs.length : Int) = 0 := by omega
  clear hs hO5 hW5 HLn
  generalize chL rs = L at *
  go_wp2_with fail
  go_loopw [6, 7] (fun u i wr => ∃ (k m : Nat), k ≤ rs.length ∧ m < 9973 ∧ i = .int .i64 k ∧ u = .int .i64 (m : Int) ∧ Hid (m = chN rs k) ∧ Keep w5 wr) (fun _ i _ => rs.length - (intOf i).toNat)
  case atStart => exact ⟨0, 1, by omega, by omega, rfl, rfl, Lib.hid rfl, Keep.refl _⟩
  case round =>
    obtain ⟨k, m, hk, hm9, rfl, rfl, HN, hK⟩ := hrel
    by_cases hlt : k < rs.length
    case' neg =>
      have hn1 : ¬ (k : Int) < (rs.length : Int) := by omega
      have heq : ((L.length : Int) == (rs.length : Int)) = true := by simp; omega
      go_wp2
      go_ret
      exact ⟨by first | rfl | exact retB heq, KF.trans hK⟩
    have hn1 : (k : Int) < (rs.length : Int) := by omega
    have hn2 : (k : Int) < (L.length : Int) := by omega
    have hk0 : (0 : Int) ≤ (k : Int) := by omega
    obtain ⟨bb, off, hbe, hb, hcc⟩ := HAt.out k hlt wr hK
    injection hbe with hbe
    injection hbe with hbe1 hbe2 _
    subst hbe1
    subst hbe2
    obtain ⟨c0, c1, c2, c3⟩ := hcc
    rw [Nat.zero_add] at c0 c1 c2 c3
    have HNx : Hid (chN rs (k + 1) = chF m (txR (rs.getD k r0)).data.toList) := Lib.hid (by rw [chN, ← HN.out])
    have hsz := txR_size (rs.getD k r0)
    have hnl := chN_lt rs (k + 1)
    have HV := Lib.hid (HVal.out k hlt)
    have HTX : Hid (txR (rs.getD k r0) = tx (rS (rs.getD k r0)) (rD (rs.getD k r0)) (rK (rs.getD k r0)) (rV (rs.getD k r0))) := Lib.hid rfl
    generalize txR (rs.getD k r0) = t at *
    generalize rS (rs.getD k r0) = x0 at c0 HTX
    generalize rD (rs.getD k r0) = x1 at c1 HTX
    generalize rK (rs.getD k r0) = x2 at c2 HTX
    generalize rV (rs.getD k r0) = x3 at c3 HTX
    have HTt := Lib.hid (text_impl x0 x1 x2 x3 wr (HT5.out.keep hK))
    rw [← HTX.out] at HTt
    obtain ⟨m2, hm2⟩ : ∃ m2, chN rs (k + 1) = m2 := ⟨_, rfl⟩
    have HM2 := Lib.hid hm2
    rw [hm2] at HNx hnl HV
    clear HTX hm2
    go_wp2_with fail
    refine HTt.out.mono ?_
    rintro e w6 ⟨rfl, k6⟩
    have K6 := hK.trans k6
    clear c0 c1 c2 c3 HTt
    go_wp2_with fail
    go_loop [6, 9] (fun u i => ∃ (j q : Nat), j ≤ t.size ∧ q < 9973 ∧ i = .int .i64 j ∧ u = .int .i64 (q : Int) ∧ Hid (q = chF m (t.data.toList.take j))) (fun _ i => t.size - (intOf i).toNat)
    case atStart => exact ⟨0, m, by omega, hm9, rfl, rfl, Lib.hid (by simp [chF])⟩
    case round =>
      obtain ⟨j, q, hj, hq, rfl, rfl, HQ⟩ := hrel
      by_cases hjt : j < t.size
      · have HX := Lib.hid (ch_next m hjt)
        rw [← HQ.out] at HX
        have hb' := t[j].toNat_lt
        obtain ⟨q2, hq2⟩ : ∃ q2, (31 * q + t[j].toNat) % 9973 = q2 := ⟨_, rfl⟩
        have HM := Lib.hid hq2
        have hq97 : q2 < 9973 := by omega
        have hti : Int.tmod (31 * (q : Int) + (t[j].toNat : Int)) 9973 = (q2 : Int) := by
          rw [← hq2]
          have h9 := Int.ofNat_tmod (31 * q + t[j].toNat) 9973
          push_cast at h9
          omega
        clear hq2
        go_wp2
        go_round
        case rel => exact ⟨j + 1, q2, by omega, hq97, by go_num, by first | rfl | (congr 1), Lib.hid (by rw [HX.out, HM.out])⟩
        case measure => simp [intOf]; omega
      · obtain rfl : j = t.size := by omega
        obtain rfl : q = m2 := by rw [HQ.out, ch_all, HNx.out]
        obtain ⟨bo, oo, rfl, -, co⟩ := (HO5.out.keep K6).at_ (show k < L.length by omega)
        rw [HV.out] at co
        clear HQ HNx hsz
        go_wp2
        go_roundw
        case rel => exact ⟨k + 1, q, by omega, hnl, by go_num, rfl, Lib.hid HM2.out.symm, K6⟩
        case measure => simp [intOf]; omega
end Go.Proofs.YtaggciojccoidaaDoor
