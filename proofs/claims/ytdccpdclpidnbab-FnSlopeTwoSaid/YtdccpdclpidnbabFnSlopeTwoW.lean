/- P134: two values have a line. -/
import Derived.Test.YtdccpdclpidnbabDrNo
import Derived.Test.YtdccpdclpidnbabTrS
import Derived.Test.YtdccpdclpidnbabFr
import Derived.LoopTactic
import Derived.IntWalk
namespace Go.Proofs.Ytdccpdclpidnbab
open Go.RowKit
set_option linter.unusedVariables false

theorem kn0 : ∀ {zs : List Int}, (knl zs).length = 0 → ∀ j, j < zs.length → zs.getD j 0 = -9999
  | [], _, j, hj => by cases hj
  | x :: r, h, j, hj => by
    by_cases hx : x = -9999
    · subst hx
      have e : knl (-9999 :: r) = knl r := by simp [knl]
      rw [e] at h
      cases j with
      | zero => rfl
      | succ j => have := kn0 h j (by simpa using hj); simpa using this
    · have hx2 : (x != -9999) = true := bne_iff_ne.2 hx
      have e : knl (x :: r) = x :: knl r := by simp only [knl, List.filter_cons, hx2]; rfl
      rw [e, List.length_cons] at h; omega
theorem kn1 : ∀ {zs : List Int}, (knl zs).length = 1 → ∃ i, i < zs.length ∧ zs.getD i 0 ≠ -9999 ∧ ∀ j, j < zs.length → j ≠ i → zs.getD j 0 = -9999
  | [], h => by simp [knl] at h
  | x :: r, h => by
    by_cases hx : x = -9999
    · subst hx
      have e : knl (-9999 :: r) = knl r := by simp [knl]
      rw [e] at h
      obtain ⟨i, h1, h2, h3⟩ := kn1 h
      refine ⟨i + 1, by simp; omega, by simpa using h2, fun j hj hne => ?_⟩
      cases j with
      | zero => rfl
      | succ j => have := h3 j (by simpa using hj) (by omega); simpa using this
    · have hx2 : (x != -9999) = true := bne_iff_ne.2 hx
      have e : knl (x :: r) = x :: knl r := by simp only [knl, List.filter_cons, hx2]; rfl
      rw [e, List.length_cons] at h
      refine ⟨0, by simp, by simpa using hx, fun j hj hne => ?_⟩
      cases j with
      | zero => exact absurd rfl hne
      | succ j => have := kn0 (zs := r) (by omega) j (by simpa using hj); simpa using this
theorem kn2 : ∀ {zs : List Int}, (knl zs).length = 2 → ∃ i k, i < k ∧ k < zs.length ∧ zs.getD i 0 ≠ -9999 ∧ zs.getD k 0 ≠ -9999 ∧ ∀ j, j < zs.length → j ≠ i → j ≠ k → zs.getD j 0 = -9999
  | [], h => by simp [knl] at h
  | x :: r, h => by
    by_cases hx : x = -9999
    · subst hx
      have e : knl (-9999 :: r) = knl r := by simp [knl]
      rw [e] at h
      obtain ⟨i, k, h1, h2, h3, h4, h5⟩ := kn2 h
      refine ⟨i + 1, k + 1, by omega, by simp; omega, by simpa using h3, by simpa using h4, fun j hj n1 n2 => ?_⟩
      cases j with
      | zero => rfl
      | succ j => have := h5 j (by simpa using hj) (by omega) (by omega); simpa using this
    · have hx2 : (x != -9999) = true := bne_iff_ne.2 hx
      have e : knl (x :: r) = x :: knl r := by simp only [knl, List.filter_cons, hx2]; rfl
      rw [e, List.length_cons] at h
      obtain ⟨k, h1, h2, h3⟩ := kn1 (zs := r) (by omega)
      refine ⟨0, k + 1, by omega, by simp; omega, by simpa using hx, by simpa using h2, fun j hj n1 n2 => ?_⟩
      cases j with
      | zero => exact absurd rfl n1
      | succ j => have := h3 j (by simpa using hj) (by omega); simpa using this
set_option maxRecDepth 100000 in
set_option maxHeartbeats 6400000 in
theorem walk_FnSlopeTwo (a0 : Option Addr) (len0 cap0 : Nat) (z0 : List Int) (w : World) (w0 : IsRow .u8 w a0 len0 cap0 z0) :
    Calls Try.prog 12 #[.slice a0 len0 cap0] w fun e w' => e = .returned (.bool true) ∧ Below w.heap.size w w' := by
  have ha := code_of_row w0
  obtain ⟨hl0, hm0⟩ := ha.1
  unfold maxLen at hm0
  clear w0
  by_cases h : len0 ≤ 1048576
  case' neg =>
    have hd : decide (1048576 < (len0 : Int)) = true := by simp; omega
    go_enter Try.func12, Try.ntmps12
    go_wp2
    go_ret
    exact ⟨rfl, Below.refl _ _⟩
  have hd : decide (1048576 < (len0 : Int)) = false := by simp; omega
  go_enter Try.func12, Try.ntmps12
  go_wp2_with fail
  refine (drawSlopeOf a0 len0 cap0 _ ha).mono ?_
  rintro e w1 ⟨a, c, zs, rfl, hl13, hcap, hB, hL1, k1⟩
  have HBt := Lib.hid hB
  clear ha hB
  go_wp2_with fail
  refine (sl_impl a c zs _ hL1 (by omega)).mono ?_
  rintro e w2 ⟨rfl, k2⟩
  go_wp2_with fail
  refine (sl_spec a c zs _ (hL1.keep k2) (by omega)).mono ?_
  rintro e w3 ⟨rfl, k3⟩
  have K3 : Keep w w3 := (k1.trans k2).trans k3
  have hL := (hL1.keep k2).keep k3
  clear hL1 k1 k2 k3
  rcases Bool.eq_false_or_eq_true (slB zs) with hs | hs
  case' inr =>
    generalize slP zs = v at *
    generalize slQ zs = u at *
    rw [hs]
    clear hs
    go_wp2
    go_ret
    exact ⟨rfl, K3⟩
  obtain ⟨gg, p, q, hgg, hp, hq', g1, g2, hu, hd, q1, hgc⟩ := sl_parts hs
  obtain ⟨hsq, h2k, hnk, hdp⟩ := slB_facts hs
  have hl12 := (sq_facts hsq).2
  have HPr := Lib.hid (sl_prod hsq (Nat.le_refl zs.length))
  have pb : -40000000 ≤ p ∧ p ≤ 40000000 := by
    have h9 : p.natAbs ≤ (slU zs zs.length).natAbs := by
      rw [hu, Int.natAbs_mul]
      exact Nat.le_mul_of_pos_right _ (by omega)
    have h8 : slU zs zs.length = slN zs zs.length * slR zs zs.length - slA zs zs.length * slX zs zs.length := rfl
    have := HPr.out
    omega
  have qb : q ≤ 40000 := by
    have h9 : q.natAbs ≤ (slD zs zs.length).natAbs := by
      rw [hd, Int.natAbs_mul]
      exact Nat.le_mul_of_pos_right _ (by omega)
    have h8 : slD zs zs.length = slN zs zs.length * slQQ zs zs.length - slA zs zs.length * slA zs zs.length := rfl
    have := HPr.out
    omega
  have HK := Lib.hid (sk_spec a c zs w3 hL (by omega))
  rw [sk_lenS hsq] at HK
  have HTwo := Lib.hid (fun h : (knl zs).length = 2 => kn2 h)
  have HLine := Lib.hid (fun (i k : Nat) (h1 : i < k) (h2 : k < zs.length) (h3 : zs.getD i 0 ≠ -9999) (h4 : zs.getD k 0 ≠ -9999) (h5 : ∀ j, j < zs.length → j ≠ i → j ≠ k → zs.getD j 0 = -9999) => sl_two hs h1 h2 h3 h4 h5)
  have HAt := Lib.hid (fun (j : Nat) (hj : j < zs.length) => sq_at hsq hj)
  rw [hp, hq'] at *
  rw [hs]
  clear hgg hp hq' g1 g2 hu hd hgc hsq hnk hdp HPr hs
  generalize (knl zs).length = kn at *
  by_cases hkn : kn = 2
  case' neg =>
    have d : ((kn : Int) != 2) = true := bne_iff_ne.2 (by omega)
    go_wp2_with fail
    refine HK.out.mono ?_
    rintro e w4 ⟨rfl, rfl⟩
    go_wp2
    go_ret
    exact ⟨rfl, K3⟩
  obtain ⟨i, k, h1, h2, h3, h4, h5⟩ := HTwo.out hkn
  have hE := HLine.out i k h1 h2 h3 h4 h5
  have d : ((kn : Int) != 2) = false := by rw [hkn]; rfl
  obtain ⟨bz, oz, rfl, hbz, hcz⟩ := hL.all (by omega)
  have ci := hcz i (by omega)
  have ck := hcz k h2
  have HZ := Lib.hid hcz
  have H5 := Lib.hid h5
  have hyi := HAt.out i (by omega)
  have hyk := HAt.out k h2
  clear hcz h5 HLine HTwo hL
  have xi9 : (zs.getD i 0 == -9999) = false := beq_eq_false_iff_ne.2 h3
  have xk9 : (zs.getD k 0 == -9999) = false := beq_eq_false_iff_ne.2 h4
  obtain ⟨x, hx⟩ : ∃ x, zs.getD i 0 = x := ⟨_, rfl⟩
  obtain ⟨y, hy⟩ : ∃ y, zs.getD k 0 = y := ⟨_, rfl⟩
  rw [hx] at ci xi9 hyi h3 hE
  rw [hy] at ck xk9 hyk h4 hE
  clear hx hy hkn h2k
  go_wp2_with fail
  refine HK.out.mono ?_
  rintro e w4 ⟨rfl, rfl⟩
  clear HK
  go_wp2_with fail
  go_loop [10] (fun u => ∃ j : Nat, j ≤ i ∧ u = .int .i64 j) (fun u => i - (intOf u).toNat)
  case atStart => exact ⟨0, by omega, rfl⟩
  case round =>
    obtain ⟨j, hj, rfl⟩ := hrel
    have j0 : (0 : Int) ≤ (j : Int) := by omega
    have jz : (j : Int) < (zs.length : Int) := by omega
    by_cases hji : j < i
    · have cj := HZ.out j (by omega)
      rw [H5.out j (by omega) (by omega) (by omega)] at cj
      go_wp2
      go_round
      case rel => exact ⟨j + 1, by omega, by go_num⟩
      case measure => simp [intOf]; omega
    · obtain rfl : j = i := by omega
      go_wp2_with fail
      go_loop [11] (fun u => ∃ t : Nat, j + 1 ≤ t ∧ t ≤ k ∧ u = .int .i64 t) (fun u => k - (intOf u).toNat)
      case atStart => exact ⟨j + 1, by omega, by omega, by go_num⟩
      case round =>
        obtain ⟨t, ht1, ht2, rfl⟩ := hrel
        have t0 : (0 : Int) ≤ (t : Int) := by omega
        have tz : (t : Int) < (zs.length : Int) := by omega
        by_cases htk : t < k
        · have ct := HZ.out t (by omega)
          rw [H5.out t (by omega) (by omega) (by omega)] at ct
          go_wp2
          go_round
          case rel => exact ⟨t + 1, by omega, by omega, by go_num⟩
          case measure => simp [intOf]; omega
        · obtain rfl : t = k := by omega
          obtain ⟨e1, he1⟩ : ∃ e1, (t : Int) - (j : Int) = e1 := ⟨_, rfl⟩
          obtain ⟨e2, he2⟩ : ∃ e2, y - x = e2 := ⟨_, rfl⟩
          rw [he1, he2] at hE
          have eb : 0 ≤ e1 ∧ e1 ≤ 12 := by omega
          have eb2 : -20000 ≤ e2 ∧ e2 ≤ 20000 := by omega
          have z1b := mul_bd (A := 40000000) (B := 12) pb (show -12 ≤ e1 ∧ e1 ≤ 12 by omega)
          have z2b := mul_bd (A := 20000) (B := 40000) eb2 (show -40000 ≤ q ∧ q ≤ 40000 by omega)
          obtain ⟨z1, hz1⟩ : ∃ z, p * e1 = z := ⟨_, rfl⟩
          obtain ⟨z2, hz2⟩ : ∃ z, e2 * q = z := ⟨_, rfl⟩
          rw [hz1] at z1b hE
          rw [hz2] at z2b hE
          subst hE
          have W0 : IntKind.i64.wrap ((t : Int) - (j : Int)) = e1 := by rw [he1]; exact IntWalk.i64_in _ ⟨by omega, by omega⟩
          have W1 : IntKind.i64.wrap (y - x) = e2 := by rw [he2]; exact IntWalk.i64_in _ ⟨by omega, by omega⟩
          have W2 : IntKind.i64.wrap (p * e1) = z1 := by rw [hz1]; exact IntWalk.i64_in _ ⟨by omega, by omega⟩
          have W3 : IntKind.i64.wrap (e2 * q) = z1 := by rw [hz2]; exact IntWalk.i64_in _ ⟨by omega, by omega⟩
          go_wp2_with fail
          go_quiet (fail)
          go_wp2
          go_ret
          exact ⟨rfl, K3.drewN _⟩
end Go.Proofs.Ytdccpdclpidnbab
