/- P72: the cost of a part is least at its median. -/
import Derived.Test.YtmndlghadgccbacDrCt
import Derived.Test.YtmndlghadgccbacKp
import Derived.Test.YtmndlghadgccbacMd
import Derived.Test.YtmndlghadgccbacPq
import Derived.Test.YtmndlghadgccbacFr
namespace Go.Proofs.Ytmndlghadgccbac
open Go.RowKit
set_option linter.unusedVariables false

set_option maxRecDepth 100000 in
set_option maxHeartbeats 6400000 in
theorem walk_FnPart (a0 : Option Addr) (len0 cap0 : Nat) (z0 : List Int) (w : World) (w0 : IsRow .u8 w a0 len0 cap0 z0) :
    Calls Try.prog 3 #[.slice a0 len0 cap0] w fun e w' => e = .returned (.bool true) ∧ Below w.heap.size w w' := by
  have ha := code_of_row w0
  obtain ⟨hl0, hm0⟩ := ha.1
  unfold maxLen at hm0
  clear w0
  by_cases h : len0 ≤ 1048576
  case' neg =>
    have hd : decide (1048576 < (len0 : Int)) = true := by simp; omega
    go_enter Try.func3, Try.ntmps3
    go_wp2
    go_ret
    exact ⟨rfl, Below.refl _ _⟩
  have hd : decide (1048576 < (len0 : Int)) = false := by simp; omega
  go_enter Try.func3, Try.ntmps3
  go_wp2_with fail
  refine (drawPartCost a0 len0 cap0 _ ha).mono ?_
  rintro e w1 ⟨a, c, zs, rfl, hl11, hcap, hB, hL1, k1⟩
  clear ha hB
  go_wp2_with fail
  refine (pc_impl a c zs _ hL1 (by omega)).mono ?_
  rintro e w2 ⟨rfl, k2⟩
  go_wp2_with fail
  refine (pc_spec a c zs _ (hL1.keep k2) (by omega)).mono ?_
  rintro e w3 ⟨rfl, k3⟩
  have K3 : Keep w w3 := (k1.trans k2).trans k3
  have hL := (hL1.keep k2).keep k3
  clear hL1 k1 k2 k3
  rcases Bool.eq_false_or_eq_true (shB zs) with hs | hs
  case' inr =>
    rw [pcV_no hs]
    clear hs
    go_wp2
    go_ret
    exact ⟨rfl, K3⟩
  obtain ⟨hb1, hb2, hm0', hm1'⟩ := sh_mo hs
  have hl8 := (shB_facts hs).2.1
  have hl1 := (sq_facts (shB_facts hs).1).2.1
  have HM := Lib.hid (mo_impl a c zs w3 hL (by omega))
  rw [hb1, hb2] at HM
  have HV := Lib.hid (pcV_yes hs)
  have HSh := Lib.hid hs
  have HLe : Hid (∀ y, pcN zs (mdL zs) zs.length ≤ pcN zs y zs.length) := Lib.hid (fun y => by rw [pcN_all, pcN_all]; exact pc_least hl1 y)
  have hv0 : 0 ≤ pcV zs := by rw [HV.out]; exact pcN_nn _ _ _
  have hdv : decide (pcV zs < 0) = false := decide_eq_false (by omega)
  clear hs hb1 hb2
  generalize pcV zs = v at *
  generalize mdL zs = m at *
  go_wp2_with fail
  refine HM.out.mono ?_
  rintro e w4 ⟨rfl, k4⟩
  have hL4 := hL.keep k4
  have K4 := K3.trans k4
  clear HM hL K3 k4
  go_wp2_with fail
  go_loopw [8] (fun i wr => ∃ k : Nat, k ≤ zs.length ∧ i = .int .i64 k ∧ Keep w4 wr) (fun i _ => zs.length - (intOf i).toNat)
  case atStart => exact ⟨0, by omega, rfl, Keep.refl _⟩
  case round =>
    obtain ⟨k, hk, rfl, hK⟩ := hrel
    by_cases hlt : k < zs.length
    · have hzk := sh_at HSh.out hlt
      obtain ⟨x, hx⟩ : ∃ x, zs.getD k 0 = x := ⟨_, rfl⟩
      rw [hx] at hzk
      have HX := Lib.hid hx
      clear hx
      obtain ⟨b, off, rfl, _, _⟩ := hL4.at_ hlt
      have k0 : (0 : Int) ≤ (k : Int) := by omega
      have kz : (k : Int) < (zs.length : Int) := by omega
      go_wp2_with fail
      go_loopw [9, 10, 11] (fun p q i wi => ∃ u : Nat, u ≤ zs.length ∧ i = .int .i64 u ∧ p = .int .i64 (pcN zs m u) ∧ q = .int .i64 (pcN zs x u) ∧ Keep w4 wi) (fun _ _ i _ => zs.length - (intOf i).toNat)
      case atStart => exact ⟨0, by omega, rfl, rfl, rfl, hK⟩
      case round =>
        obtain ⟨u, hu, rfl, rfl, rfl, hK2⟩ := hrel
        by_cases hul : u < zs.length
        · obtain ⟨b1, o1, he1, hb1, hcu⟩ := (hL4.keep hK2).at_ hul
          injection he1 with he1
          injection he1 with e1 e2 _
          subst e1; subst e2
          obtain ⟨b2, o2, he2, hb2, hck⟩ := (hL4.keep hK2).at_ hlt
          injection he2 with he2
          injection he2 with e1 e2 _
          subst e1; subst e2
          rw [HX.out] at hck
          have hz := sh_at HSh.out hul
          have hn0 := pcN_nn zs m u
          have hn1 := pcN_bd (zs := zs) (m := m) (fun j hj => by have := sh_at HSh.out hj; omega) (by omega) u hu
          have hr0 := pcN_nn zs x u
          have hr1 := pcN_bd (zs := zs) (m := x) (fun j hj => by have := sh_at HSh.out hj; omega) (by omega) u hu
          have HN : Hid (pcN zs m (u + 1) = pcN zs m u + max (zs.getD u 0 - m) (m - zs.getD u 0)) := Lib.hid (by rw [← dst_max]; rfl)
          have HR : Hid (pcN zs x (u + 1) = pcN zs x u + max (zs.getD u 0 - x) (x - zs.getD u 0)) := Lib.hid (by rw [← dst_max]; rfl)
          have u0 : (0 : Int) ≤ (u : Int) := by omega
          have uz : (u : Int) < (zs.length : Int) := by omega
          generalize pcN zs m u = n at *
          generalize pcN zs x u = r at *
          generalize zs.getD u 0 = z at *
          have s1 : IntKind.i64.wrap (z - m) = z - m := IntWalk.i64_in _ (by omega)
          have s2 : IntKind.i64.wrap (m - z) = m - z := IntWalk.i64_in _ (by omega)
          have s3 : IntKind.i64.wrap (n + (z - m)) = n + (z - m) := IntWalk.i64_in _ (by omega)
          have s4 : IntKind.i64.wrap (n + (m - z)) = n + (m - z) := IntWalk.i64_in _ (by omega)
          have t1 : IntKind.i64.wrap (z - x) = z - x := IntWalk.i64_in _ (by omega)
          have t2 : IntKind.i64.wrap (x - z) = x - z := IntWalk.i64_in _ (by omega)
          have t3 : IntKind.i64.wrap (r + (z - x)) = r + (z - x) := IntWalk.i64_in _ (by omega)
          have t4 : IntKind.i64.wrap (r + (x - z)) = r + (x - z) := IntWalk.i64_in _ (by omega)
          go_wp2_with fail
          go_quiet (fail)
          go_wp2_with fail
          go_quiet (fail)
          go_wp2
          go_roundw
          case rel => exact ⟨u + 1, by omega, by go_num, by rw [HN.out], by rw [HR.out], by first | exact hK2.drewN _ | exact (hK2.drewN _).drewN _⟩
          case measure => simp [intOf]; omega
        · obtain rfl : u = zs.length := by omega
          have hle := HLe.out x
          rw [← HV.out] at hle ⊢
          generalize pcN zs x zs.length = y at *
          have hdy : decide (y < v) = false := decide_eq_false (by omega)
          go_wp2
          go_roundw
          case rel => exact ⟨k + 1, by omega, by go_num, hK2⟩
          case measure => simp [intOf]; omega
    · obtain rfl : k = zs.length := by omega
      go_wp2
      go_ret
      exact ⟨rfl, K4.trans hK⟩
end Go.Proofs.Ytmndlghadgccbac
