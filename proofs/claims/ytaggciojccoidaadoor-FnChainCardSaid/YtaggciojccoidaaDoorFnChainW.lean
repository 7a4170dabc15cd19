/- P158: sums of versions continue. -/
import Derived.Test.YtaggciojccoidaaDoorDrCh
import Derived.Test.YtaggciojccoidaaDoorCi
import Derived.Test.YtaggciojccoidaaDoorFr
import Derived.IntWalk
namespace Go.Proofs.YtaggciojccoidaaDoor
open Go.RowKit
set_option linter.unusedVariables false

theorem stB_takeC {rs : List R4} (h : stB rs = true) (k : Nat) : stB (rs.take k) = true := by
  have h2 := stB_facts h
  unfold stB at h ⊢
  rw [Bool.and_eq_true] at h ⊢
  refine ⟨?_, ?_⟩
  · first
      | exact List.all_eq_true.2 fun x hx => List.all_eq_true.1 h.1 x (List.mem_of_mem_take hx)
      | (simp only [decide_eq_true_eq] at h ⊢; rw [List.length_take]; omega)
  · first
      | exact List.all_eq_true.2 fun x hx => List.all_eq_true.1 h.2 x (List.mem_of_mem_take hx)
      | (simp only [decide_eq_true_eq] at h ⊢; rw [List.length_take]; omega)
theorem ls_takeC {w : World} {a : Option Addr} {zs : List Int} (h : Ls w a zs) (k : Nat) : Ls w a (zs.take k) := by
  rcases h with h | ⟨b, off, ha, hb, hc⟩
  · left; rw [h]; simp
  · refine .inr ⟨b, off, ha, hb, fun i hi => ?_⟩
    rw [List.length_take] at hi
    rw [hc i (by omega)]
    simp [List.getD_eq_getElem?_getD, show i < k by omega]
set_option maxRecDepth 100000 in
set_option maxHeartbeats 6400000 in
theorem walk_FnChain (a0 : Option Addr) (len0 cap0 : Nat) (z0 : List Int) (a1 : Option Addr) (len1 cap1 : Nat) (z1 : List Int) (w : World) (w0 : IsRow .u8 w a0 len0 cap0 z0) (w1 : IsRow .u8 w a1 len1 cap1 z1) (T : Tabs w) :
    Calls Tryd.prog 3 #[.slice a0 len0 cap0, .slice a1 len1 cap1] w fun e w' => e = .returned (.bool true) ∧ Below w.heap.size w w' := by
  have HT := Lib.hid T
  clear T
  have ha := code_of_row w0
  obtain ⟨hl0, hm0⟩ := ha.1
  unfold maxLen at hm0
  clear w0
  have ha1 := code_of_row w1
  obtain ⟨hl1', hm1'⟩ := ha1.1
  unfold maxLen at hm1'
  clear w1 ha1
  by_cases h : len0 ≤ 1048576
  case' neg =>
    have hd : decide (1048576 < (len0 : Int)) = true := by simp; omega
    go_enter Tryd.func3, Tryd.ntmps3
    go_wp2
    go_ret
    exact ⟨rfl, Below.refl _ _⟩
  have hd : decide (1048576 < (len0 : Int)) = false := by simp; omega
  by_cases h1 : len1 ≤ 1048576
  case' neg =>
    have hd1 : decide (1048576 < (len1 : Int)) = true := by simp; omega
    go_enter Tryd.func3, Tryd.ntmps3
    go_wp2
    go_ret
    exact ⟨rfl, Below.refl _ _⟩
  have hd1 : decide (1048576 < (len1 : Int)) = false := by simp; omega
  go_enter Tryd.func3, Tryd.ntmps3
  go_wp2_with fail
  refine (drawChainOf a0 len0 cap0 _ ha).mono ?_
  rintro e w1 ⟨gg, c, rs, rfl, hl, hcl, hF, k1⟩
  clear ha
  have hL1 := hF.rs
  have hz := chL_len (rs := rs)
  have HT1 := Lib.hid (HT.out.keep k1)
  go_wp2_with fail
  refine (ch_impl _ c rs _ hL1 (by omega) HT1.out).mono ?_
  rintro e w2 ⟨p, q, rfl, hq, hF2, k2⟩
  go_wp2_with fail
  refine (ch_spec _ c rs _ (hL1.keep k2) (by omega)).mono ?_
  rintro e w3 ⟨p3, q3, rfl, hq3, hF3, k3⟩
  have K3 : Keep w1 w3 := k2.trans k3
  have hO := hF2.ls.keep k3
  have hW := hF3.ls
  go_wp2_with fail
  refine (sI_same p p3 q q3 (chL rs) _ hO hW (by omega)).mono ?_
  rintro e w4 ⟨rfl, k4⟩
  go_wp2_with fail
  refine (sv_spec _ c rs _ ((hL1.keep K3).keep k4) (by omega)).mono ?_
  rintro e w5 ⟨rfl, k5⟩
  have K5 : Keep w1 w5 := (K3.trans k4).trans k5
  have KF := k1.trans K5
  have hO5 := (hO.keep k4).keep k5
  have hW5 := (hW.keep k4).keep k5
  have hL5 := Lib.hid (hL1.keep K5)
  have HT5 := Lib.hid (HT1.out.keep K5)
  clear hF hF2 hF3 k2 k3 k4 k5 hO hW hL1 K3 K5 k1 HT1
  rcases Bool.eq_false_or_eq_true (stB rs) with hs | hs
  case' inr =>
    rw [hs]
    clear hs
    generalize chL rs = L at *
    go_wp2_with fail
    refine (sI_same p p3 q q3 L _ hO5 hW5 (by omega)).mono ?_
    rintro e w7 ⟨rfl, k7⟩
    go_wp2
    go_ret
    exact ⟨rfl, KF.trans k7⟩
  have HSB := Lib.hid hs
  rw [hs]
  have HLn : Hid ((chL rs).length = rs.length) := Lib.hid (by rw [chL_yes hs, chP_len])
  obtain ⟨u, hu⟩ : ∃ u : Nat, u = len1 % (rs.length + 1) := ⟨_, rfl⟩
  have hu1 : u ≤ rs.length := by have := Nat.mod_lt len1 (show 0 < rs.length + 1 by omega); omega
  have hmod : Int.tmod (len1 : Int) ((rs.length : Int) + 1) = (u : Int) := by
    have h9 := Int.ofNat_tmod len1 (rs.length + 1)
    rw [← hu] at h9
    push_cast at h9
    exact h9.symm
  have hst : stB (rs.take u) = true := stB_takeC hs u
  have HX : Hid (chL (rs.take u) = chP rs u) := Lib.hid (by rw [chL_yes hst, len_take hu1, chP_of_take])
  have HY : Hid ((chL rs).take u = chP rs u) := Lib.hid (by rw [chL_yes hs, chP_take rs hu1])
  have HLL : Hid ((rs.take u).length = u) := Lib.hid (len_take hu1)
  have HTk := Lib.hid (hL5.out.take u)
  have HCI := Lib.hid (ch_impl (some ⟨gg, 0, none⟩) c (rs.take u) w5 HTk.out (by rw [HLL.out]; omega) HT5.out)
  rw [HLL.out, HX.out] at HCI
  have HPL : Hid ((chP rs u).length = u) := Lib.hid (chP_len rs u)
  have HOT := Lib.hid (show Ls w5 p (chP rs u) by have h1 := ls_takeC hO5 u; rwa [HY.out] at h1)
  have hqn : rs.length ≤ q := by have := HLn.out; omega
  have dln : ((chL rs).length : Int) = (rs.length : Int) := by have := HLn.out; omega
  obtain ⟨n, hn⟩ : ∃ n, rs.length = n := ⟨_, rfl⟩
  have hqz : (chL rs).length = n := by rw [← hn]; exact HLn.out
  rw [hqz]
  rw [hqz] at hq
  rw [hn] at hu1 hmod hl hcl hqn ⊢
  obtain ⟨n1, hn1⟩ : ∃ n1 : Nat, n + 1 = n1 := ⟨_, rfl⟩
  have hw1 : IntKind.i64.wrap ((n : Int) + 1) = (n1 : Int) := by rw [← hn1]; exact IntWalk.i64_in _ (by omega)
  have hs1 : (n : Int) + 1 = (n1 : Int) := by omega
  rw [hs1] at hmod
  have hne : ((n1 : Int) == 0) = false := beq_eq_false_iff_ne.2 (by omega)
  have hne2 : ¬ ((n1 : Int) = 0) := by omega
  clear hu hst hs hO5 hW5 hqz dln HLn hn hz hn1
  have q0 : (0 : Int) ≤ (u : Int) := by omega
  have q1 : (u : Int) ≤ (c : Int) := by omega
  have q2 : (u : Int) ≤ (q : Int) := by omega
  go_wp2_with fail
  refine HCI.out.mono ?_
  rintro e w6 ⟨p6, q6, rfl, hq6, hF6, k6⟩
  have hX6 := hF6.ls
  have hY6 := HOT.out.keep k6
  have HSI := Lib.hid (fun c' => sI_same p6 p q6 c' (chP rs u) w6 hX6 hY6 (by rw [HPL.out]; omega))
  rw [HPL.out] at HSI ⊢
  have deq : ((u : Int) == (u : Int)) = true := beq_self_eq_true _
  clear hF6 hX6 hY6 HOT HCI
  cases p with
  | none =>
    go_wp2_with fail
    refine (HSI.out _).mono ?_
    rintro e w7 ⟨rfl, k7⟩
    go_wp2
    go_ret
    exact ⟨rfl, (KF.trans k6).trans k7⟩
  | some pa =>
    go_wp2_with fail
    refine (HSI.out _).mono ?_
    rintro e w7 ⟨rfl, k7⟩
    go_wp2
    go_ret
    exact ⟨rfl, (KF.trans k6).trans k7⟩
end Go.Proofs.YtaggciojccoidaaDoor
