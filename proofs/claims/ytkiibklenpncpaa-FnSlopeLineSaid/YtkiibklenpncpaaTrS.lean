/- Slopes: the program and the model answer 'slB', 'slP', 'slQ'. -/
import Derived.Test.YtkiibklenpncpaaSl
import Derived.Test.YtkiibklenpncpaaSq
import Derived.LoopTactic
import Derived.IntWalk
import Derived.Deep.QuietTactic
import Derived.BigQuiet
namespace Go.Proofs.Ytkiibklenpncpaa
open Go.RowKit
set_option linter.unusedVariables false

theorem gcd_step (x y : Nat) : Nat.gcd y (x % y) = Nat.gcd x y := by rw [Nat.gcd_comm, ← Nat.gcd_rec, Nat.gcd_comm]
theorem tmod_nat (x y : Nat) : Int.tmod (x : Int) (y : Int) = ((x % y : Nat) : Int) := (Int.ofNat_tmod x y).symm
theorem sk_lenS {zs : List Int} (h : sqB zs = true) : sk zs = ((knl zs).length : Int) := by rw [sk_yes h, knN_all]
theorem tdiv_exact {a p g : Int} (hg : 1 ≤ g) (h : a = p * g) : Int.tdiv a g = p := by
  rw [h]; exact Int.mul_tdiv_cancel p (by omega)
theorem ediv_exact {a p g : Int} (hg : 1 ≤ g) (h : a = p * g) : a / g = p := by
  rw [h]; exact Int.mul_ediv_cancel p (by omega)
theorem ret3S {a b a' b' : Int} {x x' : Bool} (h1 : a = a') (h2 : b = b') (h3 : x = x') :
    Ending.returned (.tuple #[.int .i64 a, .int .i64 b, .bool x]) = .returned (.tuple #[.int .i64 a', .int .i64 b', .bool x']) := by rw [h1, h2, h3]
set_option maxHeartbeats 1000000 in
theorem cf_any (n : Int) (d : Nat) (w : World) (n0 : -100000000 ≤ n) (n1 : n ≤ 100000000) (d1 : d ≤ 100000000) :
    Calls Try.prog 80 #[.int .i64 n, .int .i64 (d : Int)] w fun e w' => e = .returned (.int .i64 (Nat.gcd n.natAbs d : Int)) ∧ ∃ m, w' = w.drewN m := by
  obtain ⟨m, hm⟩ : ∃ m : Nat, n.natAbs = m := ⟨_, rfl⟩
  have hmx : max n (-n) = (m : Int) := by omega
  have m1 : m ≤ 100000000 := by omega
  rw [hm]
  have HG : Hid (Nat.gcd d m = Nat.gcd m d) := Lib.hid (Nat.gcd_comm _ _)
  clear hm
  obtain ⟨G, hGG⟩ : ∃ G, Nat.gcd m d = G := ⟨_, rfl⟩
  rw [hGG] at HG ⊢
  clear hGG
  go_enter Try.func80, Try.ntmps80
  go_wp2_with fail
  all_goals
    go_loopw [1, 5] (fun u v wr => ∃ x y q : Nat, u = .int .i64 (x : Int) ∧ v = .int .i64 (y : Int) ∧ Hid (Nat.gcd x y = G) ∧ x ≤ 100000000 ∧ y ≤ 100000000 ∧ wr = w.drewN q) (fun _ v _ => (intOf v).toNat)
    case atStart => exact ⟨d, m, 0, rfl, by first | rfl | (congr 1; omega), HG, d1, m1, rfl⟩
    case round =>
      obtain ⟨x, y, q, rfl, rfl, HX, hx, hy, rfl⟩ := hrel
      by_cases h0 : y = 0
      · subst h0
        have h1 := HX.out
        rw [Nat.gcd_zero_right] at h1
        have H1 := Lib.hid h1
        clear h1
        go_wp2
        go_ret
        exact ⟨by rw [H1.out]; rfl, _, rfl⟩
      · have y0 : ((y : Int) != 0) = true := bne_iff_ne.2 (by omega)
        have y1 : ((y : Int) == 0) = false := beq_eq_false_iff_ne.2 (by omega)
        have yy : ¬ ((y : Int) = 0) := by omega
        have yn : (y : Int) ≠ -1 := by omega
        obtain ⟨r, hr⟩ : ∃ r, x % y = r := ⟨_, rfl⟩
        have ht : Int.tmod (x : Int) (y : Int) = (r : Int) := by rw [tmod_nat, hr]
        have ht2 : (x : Int) % (y : Int) = (r : Int) := by omega
        have hry : r < y := by rw [← hr]; exact Nat.mod_lt _ (by omega)
        have HX2 : Hid (Nat.gcd y r = G) := Lib.hid (by rw [← hr, gcd_step]; exact HX.out)
        have rw1 : IntKind.i64.wrap (r : Int) = (r : Int) := IntWalk.i64_in _ ⟨by omega, by omega⟩
        clear hr
        go_wp2_with fail
        go_quiet (fail)
        go_wp2
        go_roundw
        case rel => exact ⟨y, r, q + nq, rfl, rfl, HX2, by omega, by omega, by rw [World.drewN_drewN]⟩
        case measure => simp [intOf]; omega
set_option maxRecDepth 100000 in
set_option maxHeartbeats 4000000 in
theorem sl_impl (a : Option Addr) (cap : Nat) (zs : List Int) (w : World) (h : Ls w a zs) (hm : zs.length ≤ 1048576) :
    Calls Try.prog 39 #[.slice a zs.length cap] w fun e w' => e = .returned (.tuple #[.int .i64 (slP zs), .int .i64 (slQ zs), .bool (slB zs)]) ∧ Keep w w' := by
  have HN0 : ∀ hb : slB zs = false, Ending.returned (.tuple #[.int .i64 0, .int .i64 0, .bool false]) = .returned (.tuple #[.int .i64 (slP zs), .int .i64 (slQ zs), .bool (slB zs)]) := fun hb => by rw [(sl_no hb).1, (sl_no hb).2, hb]
  have HN := Lib.hid HN0
  clear HN0
  have HK := Lib.hid (sk_impl a cap zs w h (by omega))
  by_cases hall : slB zs = true
  case' neg =>
    have hb0 : slB zs = false := by simpa using hall
    have HB := Lib.hid hb0
    have hc : sk zs < 2 := by
      rcases Bool.eq_false_or_eq_true (sqB zs) with hq | hq
      · rw [sk_lenS hq]
        by_cases c : 2 ≤ (knl zs).length
        · exact absurd (slB_mk hq c) hall
        · omega
      · rw [sk_no hq]; omega
    clear hall hb0
    generalize sk zs = s at *
    have d : decide (s < 2) = true := decide_eq_true hc
    go_enter Try.func39, Try.ntmps39
    go_wp2_with fail
    refine HK.out.mono ?_
    rintro e w1 ⟨rfl, rfl⟩
    go_wp2
    go_ret3
    exact ⟨HN.out HB.out, Keep.refl _⟩
  obtain ⟨hs, h2, hn2, hdp⟩ := slB_facts hall
  have HB := Lib.hid hall
  have hl := (sq_facts hs).2
  have HBd := Lib.hid (fun (k : Nat) (hk : k ≤ zs.length) => sl_bd hs hk)
  have HPr := Lib.hid (sl_prod hs (Nat.le_refl zs.length))
  have HPt := Lib.hid (sl_parts hall)
  have HAt := Lib.hid (fun (k : Nat) (hk : k < zs.length) => sq_at hs hk)
  have HDp := Lib.hid hdp
  have HN2 := Lib.hid hn2
  rw [sk_lenS hs, ← hn2] at HK
  have d : decide (slN zs zs.length < 2) = false := decide_eq_false (by omega)
  clear hs h2 hdp hn2 hall
  go_enter Try.func39, Try.ntmps39
  go_wp2_with fail
  refine HK.out.mono ?_
  rintro e w1 ⟨rfl, rfl⟩
  go_wp2_with fail
  go_loop [6, 7, 8, 9, 21] (fun sa sx sq sr i => ∃ k : Nat, k ≤ zs.length ∧ i = .int .i64 k ∧ sa = .int .i64 (slA zs k) ∧ sx = .int .i64 (slX zs k) ∧ sq = .int .i64 (slQQ zs k) ∧ sr = .int .i64 (slR zs k)) (fun _ _ _ _ i => zs.length - (intOf i).toNat)
  case atStart => exact ⟨0, by omega, rfl, rfl, rfl, rfl, rfl⟩
  case round =>
    obtain ⟨k, hk, rfl, rfl, rfl, rfl, rfl⟩ := hrel
    by_cases hlt : k < zs.length
    · obtain ⟨b, off, rfl, hb, cz⟩ := h.at_ hlt
      have hbd := HBd.out k hk
      have hx9 := HAt.out k hlt
      obtain ⟨a0, a1⟩ := hbd.2.1
      obtain ⟨x0, x1⟩ := hbd.2.2.1
      obtain ⟨q0, q1⟩ := hbd.2.2.2.1
      obtain ⟨r0, r1⟩ := hbd.2.2.2.2
      obtain ⟨n0, n1⟩ := hbd.1
      clear hbd
      by_cases hx : zs.getD k 0 = -9999
      · have HS := Lib.hid (sl_none hx)
        rw [hx] at cz
        clear hx hx9
        generalize slA zs k = A at *
        generalize slX zs k = X at *
        generalize slQQ zs k = Q at *
        generalize slR zs k = R at *
        go_wp2_with fail
        go_round
        case rel => exact ⟨k + 1, by omega, by go_num, by rw [HS.out.2.1], by rw [HS.out.2.2.1], by rw [HS.out.2.2.2.1], by rw [HS.out.2.2.2.2]⟩
        case measure => simp [intOf]; omega
      · have HS := Lib.hid (sl_some hx)
        have hx2 : (zs.getD k 0 != -9999) = true := bne_iff_ne.2 hx
        have b1 := mul_bd (A := 12) (B := 12) (a := (k : Int)) (b := (k : Int)) (by omega) (by omega)
        have b2 := mul_bd (A := 12) (B := 11000) (a := (k : Int)) (b := zs.getD k 0) (by omega) (by omega)
        generalize zs.getD k 0 = x at *
        generalize slA zs k = A at *
        generalize slX zs k = X at *
        generalize slQQ zs k = Q at *
        generalize slR zs k = R at *
        obtain ⟨z1, h1⟩ : ∃ z, (k : Int) * (k : Int) = z := ⟨_, rfl⟩
        obtain ⟨z2, h2⟩ : ∃ z, (k : Int) * x = z := ⟨_, rfl⟩
        rw [h1] at HS b1
        rw [h2] at HS b2
        have W1 : IntKind.i64.wrap ((k : Int) * (k : Int)) = z1 := by rw [h1]; exact IntWalk.i64_in _ ⟨by omega, by omega⟩
        have W2 : IntKind.i64.wrap ((k : Int) * x) = z2 := by rw [h2]; exact IntWalk.i64_in _ ⟨by omega, by omega⟩
        clear hx
        go_wp2_with fail
        go_round
        case rel => exact ⟨k + 1, by omega, by go_num, by rw [HS.out.2.1], by rw [HS.out.2.2.1], by rw [HS.out.2.2.2.1], by rw [HS.out.2.2.2.2]⟩
        case measure => simp [intOf]; omega
    · obtain rfl : k = zs.length := by omega
      obtain ⟨⟨n0, n1⟩, ⟨a0, a1⟩, ⟨x0, x1⟩, ⟨q0, q1⟩, ⟨r0, r1⟩⟩ := HBd.out zs.length (Nat.le_refl _)
      obtain ⟨⟨u0, u1⟩, ⟨v0, v1⟩, ⟨s0, s1⟩, ⟨t0, t1⟩⟩ := HPr.out
      obtain ⟨g, p, q', hg, hp, hq', g1, g2, hu, hd, q1', _⟩ := HPt.out
      have hU : slU zs zs.length = slN zs zs.length * slR zs zs.length - slA zs zs.length * slX zs zs.length := rfl
      have hD : slD zs zs.length = slN zs zs.length * slQQ zs zs.length - slA zs zs.length * slA zs zs.length := rfl
      have hdp := HDp.out
      have hG : Nat.gcd (slU zs zs.length).natAbs (slD zs zs.length).natAbs = slG zs := rfl
      rw [hU] at hu hG
      rw [hD] at hd hdp hG g2
      generalize slN zs zs.length = N at *
      generalize slA zs zs.length = A at *
      generalize slX zs zs.length = X at *
      generalize slQQ zs zs.length = Q at *
      generalize slR zs zs.length = R at *
      obtain ⟨z1, h1⟩ : ∃ z, N * R = z := ⟨_, rfl⟩
      obtain ⟨z2, h2⟩ : ∃ z, A * X = z := ⟨_, rfl⟩
      obtain ⟨z3, h3⟩ : ∃ z, N * Q = z := ⟨_, rfl⟩
      obtain ⟨z4, h4⟩ : ∃ z, A * A = z := ⟨_, rfl⟩
      rw [h1, h2, h3, h4] at hG
      rw [h1, h2] at hu
      rw [h3, h4] at hd hdp g2
      rw [h1] at u0 u1
      rw [h2] at v0 v1
      rw [h3] at s0 s1
      rw [h4] at t0 t1
      obtain ⟨u, hu'⟩ : ∃ u, z1 - z2 = u := ⟨_, rfl⟩
      obtain ⟨d, hd'⟩ : ∃ d : Nat, z3 - z4 = (d : Int) := ⟨(z3 - z4).toNat, by omega⟩
      rw [hu'] at hu hG
      rw [hd'] at hd hdp hG g2
      rw [Int.natAbs_natCast] at hG
      have W1 : IntKind.i64.wrap (N * R) = z1 := by rw [h1]; exact IntWalk.i64_in _ ⟨by omega, by omega⟩
      have W2 : IntKind.i64.wrap (A * X) = z2 := by rw [h2]; exact IntWalk.i64_in _ ⟨by omega, by omega⟩
      have W3 : IntKind.i64.wrap (N * Q) = z3 := by rw [h3]; exact IntWalk.i64_in _ ⟨by omega, by omega⟩
      have W4 : IntKind.i64.wrap (A * A) = z4 := by rw [h4]; exact IntWalk.i64_in _ ⟨by omega, by omega⟩
      have W5 : IntKind.i64.wrap (z1 - z2) = u := by rw [hu']; exact IntWalk.i64_in _ ⟨by omega, by omega⟩
      have W6 : IntKind.i64.wrap (z3 - z4) = (d : Int) := by rw [hd']; exact IntWalk.i64_in _ ⟨by omega, by omega⟩
      have du := tdiv_exact g1 hu
      have dd := tdiv_exact g1 hd
      have eu := ediv_exact g1 hu
      have ed := ediv_exact g1 hd
      have HV := Lib.hid (And.intro hp hq')
      have ub : -40000000 ≤ u ∧ u ≤ 40000000 := by omega
      have db : d ≤ 40000 := by omega
      have gne : (g == 0) = false := beq_eq_false_iff_ne.2 (by omega)
      have gne2 : ¬ (g = 0) := by omega
      have gne3 : g ≠ -1 := by omega
      have pb : -40000000 ≤ p ∧ p ≤ 40000000 := by
        have h9 : p.natAbs ≤ u.natAbs := by
          rw [hu, Int.natAbs_mul]
          exact Nat.le_mul_of_pos_right _ (by omega)
        omega
      have qb : q' ≤ 40000 := by
        have h9 : q'.natAbs ≤ ((d : Int)).natAbs := by
          rw [hd, Int.natAbs_mul]
          exact Nat.le_mul_of_pos_right _ (by omega)
        omega
      have wp1 : IntKind.i64.wrap p = p := IntWalk.i64_in _ ⟨by omega, by omega⟩
      have wq1 : IntKind.i64.wrap q' = q' := IntWalk.i64_in _ ⟨by omega, by omega⟩
      have HCf := Lib.hid (fun W => cf_any u d W (by omega) (by omega) (by omega))
      rw [hG, ← hg] at HCf
      have HDv := Lib.hid (And.intro du dd)
      clear hu hd hG hp hq' du dd g2 hU hD hg
      go_wp2_with fail
      refine (HCf.out _).mono ?_
      rintro e w2 ⟨rfl, mq, rfl⟩
      go_wp2_with fail
      go_quiet (fail)
      go_wp2
      go_ret3
      exact ⟨ret3S (HDv.out.1.trans HV.out.1.symm) HV.out.2.symm HB.out.symm, ((Keep.refl _).drewN _).drewN _⟩
end Go.Proofs.Ytkiibklenpncpaa
