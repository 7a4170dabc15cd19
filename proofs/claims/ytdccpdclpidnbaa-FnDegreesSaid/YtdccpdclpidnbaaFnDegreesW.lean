/- P104: degree days are counted below a base. -/
import Derived.Test.YtdccpdclpidnbaaDrNo
import Derived.Test.YtdccpdclpidnbaaMw
import Derived.Test.YtdccpdclpidnbaaLw
import Derived.Test.YtdccpdclpidnbaaFr
import Derived.LoopTactic
import Derived.IntWalk
namespace Go.Proofs.Ytdccpdclpidnbaa
open Go.RowKit
set_option linter.unusedVariables false

set_option maxRecDepth 100000 in
set_option maxHeartbeats 6400000 in
theorem walk_FnDegrees (a0 : Option Addr) (len0 cap0 : Nat) (z0 : List Int) (w : World) (w0 : IsRow .u8 w a0 len0 cap0 z0) :
    Calls Try.prog 8 #[.slice a0 len0 cap0] w fun e w' => e = .returned (.bool true) ∧ Below w.heap.size w w' := by
  have ha := code_of_row w0
  obtain ⟨hl0, hm0⟩ := ha.1
  unfold maxLen at hm0
  clear w0
  by_cases h : len0 ≤ 1048576
  case' neg =>
    have hd : decide (1048576 < (len0 : Int)) = true := by simp; omega
    go_enter Try.func8, Try.ntmps8
    go_wp2
    go_ret
    exact ⟨rfl, Below.refl _ _⟩
  have hd : decide (1048576 < (len0 : Int)) = false := by simp; omega
  go_enter Try.func8, Try.ntmps8
  go_wp2_with fail
  refine (drawDegreeDays a0 len0 cap0 _ ha).mono ?_
  rintro e w1 ⟨a, c, zs, bs, rfl, hl13, hcap, hB, hL1, ⟨g0, g1⟩, k1⟩
  have HB := Lib.hid hB
  clear ha hB
  go_wp2_with fail
  refine (dg_impl a c zs bs _ hL1 (by omega)).mono ?_
  rintro e w2 ⟨rfl, k2⟩
  go_wp2_with fail
  refine (dg_spec a c zs bs _ (hL1.keep k2) (by omega)).mono ?_
  rintro e w3 ⟨rfl, k3⟩
  have K3 : Keep w w3 := (k1.trans k2).trans k3
  have hL := (hL1.keep k2).keep k3
  clear hL1 k1 k2 k3
  rcases Bool.eq_false_or_eq_true (dgB zs bs) with hs | hs
  case' inr =>
    rw [dgV_no hs]
    go_wp2
    go_ret
    exact ⟨rfl, K3⟩
  rw [dgV_yes hs]
  have hq : sqB zs = true ∧ (-999 ≤ bs ∧ bs ≤ 10999) := by
    simp only [dgB, inB, Bool.and_eq_true, decide_eq_true_eq] at hs; exact hs
  obtain ⟨hsq, b0, b1⟩ := hq
  have hkl := knl_le zs
  have hl12 := (sq_facts hsq).2.2
  have HBd := Lib.hid (knl_bd hsq)
  have hS0 := dgS_bd (b := bs) (by omega) HBd.out
  have HMore : Hid (dgV zs (bs + 1) = -1 ∨ dgV zs (bs + 1) = dgS bs (knl zs) + (cLe (knl zs) bs : Int)) := Lib.hid (by
    cases h2 : dgB zs (bs + 1)
    · exact .inl (dgV_no h2)
    · exact .inr (by rw [dgV_yes h2, dgS_more]))
  have HKn := Lib.hid (known_any a c zs w3 hL (by omega))
  have HX := Lib.hid (fun W (k : Keep w3 W) => dg_impl a c zs (bs + 1) W (hL.keep k) (by omega))
  have HT : Hid (∀ k, k ≤ (knl zs).length → 0 ≤ dgS bs ((knl zs).take k) ∧ dgS bs ((knl zs).take k) ≤ 300000) := Lib.hid (fun k hk => by
    have h1 := dgS_bd (b := bs) (by omega) (L := (knl zs).take k) fun x hx => HBd.out x (List.mem_of_mem_take hx)
    rw [List.length_take] at h1
    omega)
  clear hs hsq
  generalize dgV zs (bs + 1) = y at *
  generalize knl zs = L at *
  have d0 : decide (dgS bs L < 0) = false := decide_eq_false (by omega)
  obtain ⟨t, ht⟩ : ∃ t, dgS bs L = t := ⟨_, rfl⟩
  rw [ht] at d0 HMore hS0 ⊢
  have HTt := Lib.hid ht
  clear ht
  go_wp2_with fail
  refine HKn.out.mono ?_
  rintro e w4 ⟨g4, c4, rfl, hc4, hW4, hg4, hl4, k4⟩
  clear HKn
  go_wp2_with fail
  go_loopw [8, 9, 10] (fun n m i wr => ∃ u n1 : Nat, u ≤ L.length ∧ n1 ≤ u ∧ i = .int .i64 u ∧ m = .int .i64 n1 ∧ n = .int .i64 (dgS bs (L.take u)) ∧ Hid (cLe (L.take u) bs = n1) ∧ Keep w4 wr) (fun _ _ i _ => L.length - (intOf i).toNat)
  case atStart => exact ⟨0, 0, by omega, by omega, rfl, rfl, rfl, Lib.hid (by simp [cLe]), Keep.refl _⟩
  case round =>
    obtain ⟨u, n1, hu, hn1, rfl, rfl, rfl, H1, hK2⟩ := hrel
    by_cases hul : u < L.length
    · obtain ⟨bz, oz, hae, hbz, du⟩ := (hW4.keep hK2).ls.at_ hul
      injection hae with hae
      injection hae with e1 e2 _
      subst e1; subst e2
      rw [Nat.zero_add] at du
      have e : L.take (u + 1) = L.take u ++ [L.getD u 0] := by
        rw [List.take_succ_eq_append_getElem hul]; simp [List.getD_eq_getElem?_getD, hul]
      have HS := Lib.hid (show dgS bs (L.take (u + 1)) = dgS bs (L.take u) + max (bs - L.getD u 0) 0 by rw [e, dgS_app, dgS_one])
      have T1 : Hid (cLe (L.take (u + 1)) bs = n1 + (if L.getD u 0 ≤ bs then 1 else 0)) := Lib.hid (by
        have h2 := H1.out
        rw [e]; unfold cLe at h2 ⊢
        rw [List.countP_append, h2]; simp [List.countP_cons])
      obtain ⟨x0, x1⟩ := HBd.out _ (getD_mem hul)
      obtain ⟨t0, t1⟩ := HT.out u hu
      clear e
      generalize L.getD u 0 = x at *
      obtain ⟨s, hs⟩ : ∃ s, dgS bs (L.take u) = s := ⟨_, rfl⟩
      rw [hs] at HS t0 t1 ⊢
      clear hs
      have u0 : (0 : Int) ≤ (u : Int) := by omega
      have uz : (u : Int) < (L.length : Int) := by omega
      by_cases q1 : x ≤ bs
      · have HT1 : Hid (cLe (L.take (u + 1)) bs = n1 + 1) := Lib.hid (by rw [T1.out, if_pos q1])
        have d1 : decide (x ≤ bs) = true := decide_eq_true q1
        clear T1
        go_wp2
        go_roundw
        case rel => exact ⟨u + 1, n1 + 1, by omega, by omega, by go_num, by go_num, by rw [HS.out], HT1, hK2⟩
        case measure => simp [intOf]; omega
      · have HT1 : Hid (cLe (L.take (u + 1)) bs = n1) := Lib.hid (by rw [T1.out, if_neg q1, Nat.add_zero])
        have d1 : decide (x ≤ bs) = false := decide_eq_false q1
        clear T1
        go_wp2
        go_roundw
        case rel => exact ⟨u + 1, n1, by omega, by omega, by go_num, rfl, by rw [HS.out], HT1, hK2⟩
        case measure => simp [intOf]; omega
    · obtain rfl : u = L.length := by omega
      rw [List.take_length] at H1
      rw [H1.out] at HMore
      rw [List.take_length, HTt.out]
      have hw : IntKind.i64.wrap (t + (n1 : Int)) = t + (n1 : Int) := IntWalk.i64_in _ ⟨by omega, by omega⟩
      go_wp2_with fail
      refine (HX.out _ (k4.trans hK2)).mono ?_
      rintro e w5 ⟨rfl, k5⟩
      have K5 := ((K3.trans k4).trans hK2).trans k5
      rcases HMore.out with hm | hm
      · rw [hm]
        go_wp2
        go_ret
        exact ⟨rfl, K5⟩
      · rw [hm]
        have dn : decide (t + (n1 : Int) < 0) = false := decide_eq_false (by omega)
        go_wp2
        go_ret
        exact ⟨rfl, K5⟩
end Go.Proofs.Ytdccpdclpidnbaa
