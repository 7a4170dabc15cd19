/- Normals: the program and the model answer 'meV', 'exLo', 'dgV', 'rkV'. -/
import Derived.Test.YtkiibklenpncpaaTa
import Derived.Test.YtkiibklenpncpaaShelf
import Derived.Test.YtkiibklenpncpaaMd
import Derived.Test.YtkiibklenpncpaaHt
import Derived.LoopTactic
import Derived.IntWalk
namespace Go.Proofs.Ytkiibklenpncpaa
open Go.RowKit
set_option linter.unusedVariables false

theorem knl_takeE (zs : List Int) {k : Nat} (h : k < zs.length) : knl (zs.take (k + 1)) = knl (zs.take k) ++ knl [zs.getD k 0] := by
  rw [List.take_succ_eq_append_getElem h, knl, knl, knl, List.filter_append]
  simp [List.getD_eq_getElem?_getD, h]
theorem sk_len {zs : List Int} (h : sqB zs = true) : sk zs = ((knl zs).length : Int) := by rw [sk_yes h, knN_all]
set_option maxRecDepth 100000 in
set_option maxHeartbeats 1000000 in
theorem me_impl (a : Option Addr) (cap : Nat) (zs : List Int) (gp : Int) (w : World) (h : Ls w a zs) (hm : zs.length ≤ 1048576) :
    Calls Try.prog 62 #[.slice a zs.length cap, .int .i64 gp] w fun e w' => e = .returned (.tuple #[.int .i64 (meV zs gp), .bool (meB zs gp)]) ∧ Keep w w' := by
  have HN0 : ∀ hb : meB zs gp = false, Ending.returned (.tuple #[.int .i64 0, .bool false]) = .returned (.tuple #[.int .i64 (meV zs gp), .bool (meB zs gp)]) := fun hb => by rw [meV_no hb, hb]
  have HN := Lib.hid HN0
  clear HN0
  go_enter Try.func62, Try.ntmps62
  go_wp2_with fail
  refine (sk_impl a cap zs w h (by omega)).mono ?_
  rintro e w1 ⟨rfl, rfl⟩
  rcases Bool.eq_false_or_eq_true (sqB zs) with hs | hs
  case' inr =>
    have HB := Lib.hid (meB_sq (g := gp) hs)
    rw [sk_no hs]
    go_wp2
    go_ret2
    exact ⟨HN.out HB.out, Keep.refl _⟩
  have hl := (sq_facts hs).2
  have hkl := knl_le zs
  rw [sk_len hs]
  by_cases h0 : (knl zs).length < 1
  · have HB := Lib.hid (meB_none (g := gp) (show (knl zs).length = 0 by omega))
    generalize knl zs = L at *
    have d : decide ((L.length : Int) < 1) = true := decide_eq_true (by omega)
    clear hs
    go_wp2
    go_ret2
    exact ⟨HN.out HB.out, Keep.refl _⟩
  by_cases hg : gp < (zs.length : Int) - ((knl zs).length : Int)
  · have HB := Lib.hid (meB_gaps hg)
    generalize knl zs = L at *
    have d : decide ((L.length : Int) < 1) = false := decide_eq_false (by omega)
    have d2 : decide (gp < (zs.length : Int) - (L.length : Int)) = true := decide_eq_true hg
    clear hs
    go_wp2
    go_ret2
    exact ⟨HN.out HB.out, Keep.refl _⟩
  have hb := meB_mk hs (show 0 < (knl zs).length by omega) (show (zs.length : Int) - ((knl zs).length : Int) ≤ gp by omega)
  have HB := Lib.hid hb
  have HR := Lib.hid (me_ro hb)
  have HT := Lib.hid (fun W (k : Keep w W) => ty_add a cap zs 0 W (h.keep k) hs (by omega) (by omega))
  clear hb hs
  have d : decide (((knl zs).length : Int) < 1) = false := decide_eq_false (by omega)
  have d2 : decide (gp < (zs.length : Int) - ((knl zs).length : Int)) = false := decide_eq_false (by omega)
  generalize isum (knl zs) = s at *
  generalize (knl zs).length = m at *
  go_wp2_with fail
  refine (HT.out _ (Keep.refl _)).mono ?_
  rintro e w2 ⟨rfl, k2⟩
  go_wp2_with fail
  refine (ro_impl s (m : Int) _).mono ?_
  rintro e w3 ⟨rfl, rfl⟩
  go_wp2
  go_ret2
  exact ⟨ret2 HR.out.2 (HR.out.1.trans HB.out.symm), k2⟩
set_option maxRecDepth 100000 in
set_option maxHeartbeats 1000000 in
theorem me_spec (a : Option Addr) (cap : Nat) (zs : List Int) (gp : Int) (w : World) (h : Ls w a zs) (hm : zs.length ≤ 1048576) :
    Calls Try.prog 101 #[.slice a zs.length cap, .int .i64 gp] w fun e w' => e = .returned (.tuple #[.int .i64 (meV zs gp), .bool (meB zs gp)]) ∧ Keep w w' := by
  have HN0 : ∀ hb : meB zs gp = false, Ending.returned (.tuple #[.int .i64 0, .bool false]) = .returned (.tuple #[.int .i64 (meV zs gp), .bool (meB zs gp)]) := fun hb => by rw [meV_no hb, hb]
  have HN := Lib.hid HN0
  clear HN0
  have HQ := Lib.hid (sqv_spec a cap zs w h (by omega))
  rcases Bool.eq_false_or_eq_true (sqB zs) with hs | hs
  case' inr =>
    have HB := Lib.hid (meB_sq (g := gp) hs)
    rw [hs] at HQ
    clear hs
    go_enter Try.func101, Try.ntmps101
    go_wp2_with fail
    refine HQ.out.mono ?_
    rintro e w1 ⟨rfl, rfl⟩
    go_wp2
    go_ret2
    exact ⟨HN.out HB.out, Keep.refl _⟩
  have hl := (sq_facts hs).2
  have hkl := knl_le zs
  have HK := Lib.hid (fun W (k : Keep w W) => sk_spec a cap zs W (h.keep k) (by omega))
  rw [sk_len hs] at HK
  rw [hs] at HQ
  by_cases hg : gp < (zs.length : Int) - ((knl zs).length : Int)
  · have HB := Lib.hid (meB_gaps hg)
    generalize knl zs = L at *
    have d2 : decide (gp < (zs.length : Int) - (L.length : Int)) = true := decide_eq_true hg
    clear hs
    go_enter Try.func101, Try.ntmps101
    go_wp2_with fail
    refine HQ.out.mono ?_
    rintro e w1 ⟨rfl, rfl⟩
    go_wp2_with fail
    refine (HK.out _ (Keep.refl _)).mono ?_
    rintro e w1 ⟨rfl, rfl⟩
    go_wp2
    go_ret2
    exact ⟨HN.out HB.out, Keep.refl _⟩
  have d2 : decide (gp < (zs.length : Int) - ((knl zs).length : Int)) = false := decide_eq_false (by omega)
  by_cases h0 : (knl zs).length < 1
  · have HB := Lib.hid (meB_none (g := gp) (show (knl zs).length = 0 by omega))
    generalize knl zs = L at *
    have d : ((L.length : Int) == 0) = true := beq_iff_eq.2 (by omega)
    clear hs
    go_enter Try.func101, Try.ntmps101
    go_wp2_with fail
    refine HQ.out.mono ?_
    rintro e w1 ⟨rfl, rfl⟩
    go_wp2_with fail
    refine (HK.out _ (Keep.refl _)).mono ?_
    rintro e w1 ⟨rfl, rfl⟩
    go_wp2_with fail
    refine (HK.out _ (Keep.refl _)).mono ?_
    rintro e w1 ⟨rfl, rfl⟩
    go_wp2
    go_ret2
    exact ⟨HN.out HB.out, Keep.refl _⟩
  have hb := meB_mk hs (show 0 < (knl zs).length by omega) (show (zs.length : Int) - ((knl zs).length : Int) ≤ gp by omega)
  have HB := Lib.hid hb
  have HV := Lib.hid (meV_yes hb)
  have HKn := Lib.hid (fun W (k : Keep w W) => known2_any a cap zs W (h.keep k) hm)
  have HBd := Lib.hid (knl_bd hs)
  have HT : Hid (∀ k, k ≤ (knl zs).length → -300000 ≤ isum ((knl zs).take k) ∧ isum ((knl zs).take k) ≤ 300000) := Lib.hid (fun k hk => by
    have := isum_bd (L := (knl zs).take k) fun x hx => by have := HBd.out x (List.mem_of_mem_take hx); omega
    rw [List.length_take, Nat.min_eq_left hk] at this
    omega)
  clear hb hs
  have d : (((knl zs).length : Int) == 0) = false := beq_eq_false_iff_ne.2 (by omega)
  generalize meV zs gp = v at *
  generalize knl zs = L at *
  go_enter Try.func101, Try.ntmps101
  go_wp2_with fail
  refine HQ.out.mono ?_
  rintro e w1 ⟨rfl, rfl⟩
  go_wp2_with fail
  refine (HK.out _ (Keep.refl _)).mono ?_
  rintro e w1 ⟨rfl, rfl⟩
  go_wp2_with fail
  refine (HK.out _ (Keep.refl _)).mono ?_
  rintro e w1 ⟨rfl, rfl⟩
  go_wp2_with fail
  refine (HKn.out _ (Keep.refl _)).mono ?_
  rintro e w2 ⟨g, c, rfl, hc, hW, hg2, hl2, k2⟩
  clear HKn HK HQ
  go_wp2_with fail
  go_loop [6, 8] (fun s i => ∃ k : Nat, k ≤ L.length ∧ i = .int .i64 k ∧ s = .int .i64 (isum (L.take k))) (fun _ i => L.length - (intOf i).toNat)
  case atStart => exact ⟨0, by omega, rfl, rfl⟩
  case round =>
    obtain ⟨k, hk, rfl, rfl⟩ := hrel
    by_cases hlt : k < L.length
    · obtain ⟨cz, _⟩ := hW k hlt
      have HS := Lib.hid (isum_take hlt)
      obtain ⟨x0, x1⟩ := HBd.out _ (getD_mem hlt)
      obtain ⟨t0, t1⟩ := HT.out k hk
      have k0 : (0 : Int) ≤ (k : Int) := by omega
      have kz : (k : Int) < (L.length : Int) := by omega
      generalize L.getD k 0 = x at *
      generalize isum (L.take k) = s at *
      go_wp2
      go_round
      case rel => exact ⟨k + 1, by omega, by go_num, by rw [HS.out]⟩
      case measure => simp [intOf]; omega
    · obtain rfl : k = L.length := by omega
      obtain ⟨t0, t1⟩ := HT.out L.length (Nat.le_refl _)
      rw [List.take_length] at *
      go_wp2_with fail
      refine (l4r_any (isum L) (L.length : Int) _ (by omega) (by omega) (by omega) (by omega)).mono ?_
      rintro e w3 ⟨rfl, rfl⟩
      go_wp2
      go_ret2
      exact ⟨ret2 HV.out.symm HB.out.symm, k2⟩
end Go.Proofs.Ytkiibklenpncpaa
