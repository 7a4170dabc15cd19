/- P160: the first damage is found. -/
import Derived.Test.YtaggciojccoidaaDoorDrCk
import Derived.Test.YtaggciojccoidaaDoorCl
import Derived.Test.YtaggciojccoidaaDoorTah
import Derived.Test.YtaggciojccoidaaDoorFr
import Derived.IntWalk
import Derived.LoopTactic
import Derived.Deep.QuietTactic
import Derived.BigQuiet
namespace Go.Proofs.YtaggciojccoidaaDoor
open Go.RowKit
set_option linter.unusedVariables false

set_option maxRecDepth 100000 in
set_option maxHeartbeats 6400000 in
theorem walk_FnChainCheck (a0 : Option Addr) (len0 cap0 : Nat) (z0 : List Int) (w : World) (w0 : IsRow .u8 w a0 len0 cap0 z0) (T : TabsH w) :
    Calls Tryd.prog 5 #[.slice a0 len0 cap0] w fun e w' => e = .returned (.bool true) ∧ Below w.heap.size w w' := by
  have HT := Lib.hid T
  clear T
  have ha := code_of_row w0
  obtain ⟨hl0, hm0⟩ := ha.1
  unfold maxLen at hm0
  clear w0
  by_cases h : len0 ≤ 1048576
  case' neg =>
    have hd : decide (1048576 < (len0 : Int)) = true := by simp; omega
    go_enter Tryd.func5, Tryd.ntmps5
    go_wp2
    go_ret
    exact ⟨rfl, Below.refl _ _⟩
  have hd : decide (1048576 < (len0 : Int)) = false := by simp; omega
  go_enter Tryd.func5, Tryd.ntmps5
  go_wp2_with fail
  refine (drawChainCheck a0 len0 cap0 _ ha).mono ?_
  rintro e w1 ⟨gg, c, rs, b, d, ys, rfl, hl, hl2, hR, hY, k1⟩
  clear ha
  go_wp2_with fail
  refine (ck_impl _ c rs b d ys _ hR (by omega) hY (by omega) (HT.out.keep k1)).mono ?_
  rintro e w2 ⟨rfl, k2⟩
  go_wp2_with fail
  refine (ck_spec _ c rs b d ys _ (hR.keep k2) (by omega) (hY.keep k2) (by omega)).mono ?_
  rintro e w3 ⟨rfl, k3⟩
  have K3 : Keep w w3 := (k1.trans k2).trans k3
  have hR3 := (hR.keep k2).keep k3
  have hY3 := Lib.hid ((hY.keep k2).keep k3)
  rcases Bool.eq_false_or_eq_true (stB rs) with hs | hs
  case' inr =>
    rw [ckV_no hs]
    clear hs
    go_wp2
    go_ret
    exact ⟨rfl, K3⟩
  have hb := ckV_bd rs ys
  have hnn : 0 ≤ ckV rs ys := by rw [ckV_yes hs]; omega
  have hd : decide (ckV rs ys < 0) = false := decide_eq_false (by omega)
  have hdn : ¬ ckV rs ys < 0 := by omega
  have HCH := Lib.hid (ch_impl _ c rs w3 hR3 (by omega) ((HT.out.keep K3).1))
  have hLn : (chL rs).length = rs.length := by rw [chL_yes hs, chP_len]
  have HST := Lib.hid (fun (k : Nat) (hk : k ≤ rs.length) ha hst => ck_stop (sums := ys) hs (k := k) hk ha hst)
  rw [← chL_yes hs] at HST
  have hnL : (chL rs).length ≤ rs.length := Nat.le_of_eq hLn
  have hLn2 : rs.length ≤ (chL rs).length := Nat.le_of_eq hLn.symm
  clear hs hLn hR hY k1 k2 k3 hR3
  generalize chL rs = L at *
  generalize ckV rs ys = V at *
  go_wp2_with fail
  refine HCH.out.mono ?_
  rintro e w4 ⟨p, q, rfl, hq, hF, k4⟩
  have K4 := K3.trans k4
  have HX := Lib.hid hF.ls
  have HY := Lib.hid (hY3.out.keep k4)
  clear hF HCH hY3 k4 hq
  go_wp2_with fail
  go_loopw [8] (fun i wr => ∃ k : Nat, k ≤ L.length ∧ i = .int .i64 (k : Int) ∧ Hid (∀ j, j < k → j < ys.length ∧ ys.getD j 0 = L.getD j 0) ∧ Keep w4 wr) (fun i _ => L.length - (intOf i).toNat)
  case atStart => exact ⟨0, by omega, rfl, Lib.hid (fun j hj => absurd hj (by omega)), Keep.refl _⟩
  case round =>
    obtain ⟨k, hk, rfl, HA, hK⟩ := hrel
    by_cases hlt : k < L.length
    case' neg =>
      obtain rfl : k = L.length := by omega
      have HF : V = (rs.length : Int) := HST.out rs.length (Nat.le_refl _) (fun j hj => HA.out j (by omega)) (.inl rfl)
      subst HF
      go_wp2
      go_ret
      exact ⟨by first | rfl | exact retB (by simp), K4.trans hK⟩
    obtain ⟨bx, ox, rfl, cx⟩ := ls_lenC (HX.out.keep hK) hlt
    have u0 : (0 : Int) ≤ (k : Int) := by omega
    have u1 : (k : Int) < (L.length : Int) := by omega
    by_cases hys : k < ys.length
    · obtain ⟨by', oy, rfl, cy⟩ := ls_lenC (HY.out.keep hK) hys
      have u2 : (k : Int) < (ys.length : Int) := by omega
      have hd1 : ¬ (ys.length : Int) ≤ (k : Int) := by omega
      have hd3 : decide ((ys.length : Int) ≤ (k : Int)) = false := decide_eq_false hd1
      by_cases he : ys.getD k 0 = L.getD k 0
      · have HA2 : Hid (∀ j, j < k + 1 → j < ys.length ∧ ys.getD j 0 = L.getD j 0) := Lib.hid (fun j hj => by
          by_cases e : j < k
          · exact HA.out j e
          · obtain rfl : j = k := by omega
            exact ⟨hys, he⟩)
        rw [he] at cy
        clear he HA
        generalize L.getD k 0 = x at cx cy
        have hd2 : (x != x) = false := by simp
        go_wp2_with fail
        try go_quiet (fail)
        try go_wp2
        go_roundw
        case rel => exact ⟨k + 1, by omega, by go_num, HA2, by first | exact hK | exact hK.drewN _⟩
        case measure => simp [intOf]; omega
      · have HF : V = (k : Int) := HST.out k (by omega) HA.out (.inr (.inr he))
        have hd2 : (ys.getD k 0 != L.getD k 0) = true := bne_iff_ne.2 he
        clear he HA
        subst HF
        generalize L.getD k 0 = x at cx hd2
        generalize ys.getD k 0 = y at cy hd2
        go_wp2_with fail
        try go_quiet (fail)
        try go_wp2
        go_ret
        exact ⟨by first | rfl | exact retB (by simp), by first | exact K4.trans hK | exact (K4.trans hK).drewN _⟩
    · have HF : V = (k : Int) := HST.out k (by omega) HA.out (.inr (.inl (by omega)))
      have hd1 : (ys.length : Int) ≤ (k : Int) := by omega
      have hd3 : decide ((ys.length : Int) ≤ (k : Int)) = true := decide_eq_true hd1
      clear HA
      subst HF
      generalize L.getD k 0 = x at cx
      go_wp2_with fail
      try go_quiet (fail)
      try go_wp2
      go_ret
      exact ⟨by first | rfl | exact retB (by simp), by first | exact K4.trans hK | exact (K4.trans hK).drewN _⟩
end Go.Proofs.YtaggciojccoidaaDoor
