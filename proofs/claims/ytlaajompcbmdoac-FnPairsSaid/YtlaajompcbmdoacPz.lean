/- PairsOf and TrendOf: the model. -/
import Derived.Test.YtlaajompcbmdoacPr
import Derived.Test.YtlaajompcbmdoacMd
import Derived.Deep.QuietTactic
import Derived.BigQuiet
import Derived.LoopTactic
import Derived.IntWalk
namespace Go.Proofs.Ytlaajompcbmdoac
open Go.RowKit
set_option linter.unusedVariables false

set_option maxRecDepth 100000 in
set_option maxHeartbeats 2000000 in
theorem pp_spec (a : Option Addr) (cap : Nat) (zs : List Int) (w : World) (h : Ls w a zs) (hm : zs.length ≤ 1048576) :
    Calls Try.prog 19 #[.slice a zs.length cap] w fun e w' => e = .returned (.tuple #[.int .i64 (prU zs), .int .i64 (prD zs)]) ∧ Keep w w' := by
  have HQ := Lib.hid (sqv_spec a cap zs w h (by omega))
  rcases Bool.eq_false_or_eq_true (sqB zs) with hs | hs
  case' inr =>
    rw [(pr_no hs).1, (pr_no hs).2]
    rw [hs] at HQ
    clear hs
    go_enter Try.func19, Try.ntmps19
    go_wp2_with fail
    refine HQ.out.mono ?_
    rintro e w1 ⟨rfl, rfl⟩
    go_wp2
    go_ret2
    exact ⟨rfl, Keep.refl _⟩
  have hkl : (knl zs).length ≤ 12 := Nat.le_trans (knl_le zs) (sq_facts hs).2.2
  have hnn := pr_yes hs
  rw [hnn.1, hnn.2]
  rw [hs] at HQ
  have HKn := Lib.hid (fun W (k : Keep w W) => known2_any a cap zs W (h.keep k) hm)
  have HBd := Lib.hid (fun k => p_bd ((knl zs).take k) (by rw [List.length_take]; omega))
  have HP := Lib.hid (fun k (h : k < (knl zs).length) => pU_take h)
  clear hs hnn
  generalize knl zs = L at *
  go_enter Try.func19, Try.ntmps19
  go_wp2_with fail
  refine HQ.out.mono ?_
  rintro e w1 ⟨rfl, rfl⟩
  go_wp2_with fail
  refine (HKn.out _ (Keep.refl w)).mono ?_
  rintro e w2 ⟨gk, ck, rfl, hck, hW, hgk, hgl, k2⟩
  have HW := Lib.hid hW
  clear hW HQ HKn
  go_wp2_with fail
  go_loopw [4, 5, 7] (fun u d i wr => ∃ (k : Nat), k ≤ L.length ∧ i = .int .i64 (k : Int) ∧ u = .int .i64 (pU (L.take k) : Int) ∧ d = .int .i64 (pD (L.take k) : Int) ∧ ∃ q, wr = w2.drewN q) (fun _ _ i _ => L.length - (intOf i).toNat)
  case atStart => exact ⟨0, by omega, rfl, rfl, rfl, 0, rfl⟩
  case round =>
    obtain ⟨k, hk, rfl, rfl, rfl, q, rfl⟩ := hrel
    by_cases hlt : k < L.length
    · obtain ⟨cz, _⟩ := HW.out k hlt
      have HPk := Lib.hid (HP.out k hlt)
      have HBU : Hid (∀ j, j ≤ k → pU (L.take k) + cLt (L.take j) (L.getD k 0) ≤ 100 ∧ pD (L.take k) + cGt (L.take j) (L.getD k 0) ≤ 100) := Lib.hid (fun j hj => by
        have h1 : cLt (L.take j) (L.getD k 0) ≤ (L.take j).length := List.countP_le_length
        have h2 : cGt (L.take j) (L.getD k 0) ≤ (L.take j).length := List.countP_le_length
        have h3 := HBd.out k
        rw [List.length_take] at h1 h2; omega)
      have HCS : Hid (∀ j, j < k → cLt (L.take (j + 1)) (L.getD k 0) = cLt (L.take j) (L.getD k 0) + (if L.getD j 0 < L.getD k 0 then 1 else 0) ∧ cGt (L.take (j + 1)) (L.getD k 0) = cGt (L.take j) (L.getD k 0) + (if L.getD k 0 < L.getD j 0 then 1 else 0)) := Lib.hid (fun j hj => by
        have e : L.take (j + 1) = L.take j ++ [L.getD j 0] := by
          rw [List.take_succ_eq_append_getElem (by omega)]; simp [List.getD_eq_getElem?_getD, show j < L.length by omega]
        rw [e, cLt_snoc, cGt_snoc]; exact ⟨rfl, rfl⟩)
      generalize pU (L.take k) = pu at *
      generalize pD (L.take k) = pd at *
      go_wp2_with fail
      go_loopw [4, 5, 8] (fun u d i wr2 => ∃ (j : Nat), j ≤ k ∧ i = .int .i64 (j : Int) ∧ u = .int .i64 ((pu + cLt (L.take j) (L.getD k 0) : Nat) : Int) ∧ d = .int .i64 ((pd + cGt (L.take j) (L.getD k 0) : Nat) : Int) ∧ ∃ q, wr2 = w2.drewN q) (fun _ _ i _ => k - (intOf i).toNat)
      case atStart => exact ⟨0, by omega, rfl, by simp [cLt], by simp [cGt], q, rfl⟩
      case round =>
        obtain ⟨j, hj, rfl, rfl, rfl, q2, rfl⟩ := hrel
        by_cases hjk : j < k
        · obtain ⟨cj, _⟩ := HW.out j (by omega)
          have j0 : (0 : Int) ≤ (j : Int) := by omega
          have k0 : (0 : Int) ≤ (k : Int) := by omega
          have jL : (j : Int) < (L.length : Int) := by omega
          have kL : (k : Int) < (L.length : Int) := by omega
          have hC := HCS.out j hjk
          have hB := HBU.out j (by omega)
          have hB1 := HBU.out (j + 1) (by omega)
          generalize L.getD j 0 = y at *
          generalize L.getD k 0 = x at *
          have hcase : (y < x ∧ decide (y < x) = true ∧ decide (x < y) = false ∧ cLt (L.take (j + 1)) x = cLt (L.take j) x + 1 ∧ cGt (L.take (j + 1)) x = cGt (L.take j) x) ∨ (x < y ∧ decide (y < x) = false ∧ decide (x < y) = true ∧ cLt (L.take (j + 1)) x = cLt (L.take j) x ∧ cGt (L.take (j + 1)) x = cGt (L.take j) x + 1) ∨ (y = x ∧ cLt (L.take (j + 1)) x = cLt (L.take j) x ∧ cGt (L.take (j + 1)) x = cGt (L.take j) x) := by
            rcases Int.lt_trichotomy y x with h1 | h1 | h1
            · left; refine ⟨h1, by simpa using h1, by simp; omega, ?_, ?_⟩
              · have hh := hC.1; rw [if_pos h1] at hh; omega
              · have hh := hC.2; rw [if_neg (by omega)] at hh; omega
            · right; right; refine ⟨h1, ?_, ?_⟩
              · have hh := hC.1; rw [if_neg (by omega)] at hh; omega
              · have hh := hC.2; rw [if_neg (by omega)] at hh; omega
            · right; left; refine ⟨h1, by simp; omega, by simpa using h1, ?_, ?_⟩
              · have hh := hC.1; rw [if_neg (by omega)] at hh; omega
              · have hh := hC.2; rw [if_pos h1] at hh; omega
          clear hC HCS HBU
          have ew1 : IntKind.i64.wrap (((pu + cLt (L.take j) x : Nat) : Int) + 1) = ((pu + (cLt (L.take j) x + 1) : Nat) : Int) := by
            rw [show ((pu + cLt (L.take j) x : Nat) : Int) + 1 = ((pu + (cLt (L.take j) x + 1) : Nat) : Int) by omega]; exact IntWalk.i64_in _ ⟨by omega, by omega⟩
          have ew2 : IntKind.i64.wrap (((pd + cGt (L.take j) x : Nat) : Int) + 1) = ((pd + (cGt (L.take j) x + 1) : Nat) : Int) := by
            rw [show ((pd + cGt (L.take j) x : Nat) : Int) + 1 = ((pd + (cGt (L.take j) x + 1) : Nat) : Int) by omega]; exact IntWalk.i64_in _ ⟨by omega, by omega⟩
          rcases hcase with ⟨h1, h2, h3, h4, h5⟩ | ⟨h1, h2, h3, h4, h5⟩ | ⟨rfl, h4, h5⟩
          all_goals
            go_wp2_with fail
            go_quiet (fail)
            go_wp2_with fail
            try go_quiet (fail)
            try go_wp2
            go_roundw
            case measure => simp [intOf]; omega
            case rel => exact ⟨j + 1, by omega, by go_num, by first | (rw [h4]; done) | (rw [h4]; rfl) | (rw [h4]; go_num) | (rw [h4]; simp), by first | (rw [h5]; done) | (rw [h5]; rfl) | (rw [h5]; go_num) | (rw [h5]; simp), _, rfl⟩
        · obtain rfl : j = k := by omega
          rw [← HPk.out.1, ← HPk.out.2]
          go_wp2
          go_roundw
          case measure => simp [intOf]; omega
          case rel => exact ⟨j + 1, by omega, by go_num, rfl, rfl, _, rfl⟩
    · obtain rfl : k = L.length := by omega
      rw [List.take_length] at *
      go_wp2
      go_ret2
      exact ⟨rfl, k2.drewN _⟩
set_option maxRecDepth 100000 in
set_option maxHeartbeats 2000000 in
theorem tv_spec (a : Option Addr) (cap : Nat) (zs : List Int) (w : World) (h : Ls w a zs) (hm : zs.length ≤ 1048576) :
    Calls Try.prog 25 #[.slice a zs.length cap] w fun e w' => e = .returned (.int .i64 (trV zs)) ∧ Keep w w' := by
  have HPP := Lib.hid (pp_spec a cap zs w h hm)
  rcases Bool.eq_false_or_eq_true (sqB zs) with hs | hs
  case' inr =>
    rw [tr_no hs]
    rw [(pr_no hs).1, (pr_no hs).2] at HPP
    clear hs
    go_enter Try.func25, Try.ntmps25
    go_wp2_with fail
    refine HPP.out.mono ?_
    rintro e w1 ⟨rfl, k1⟩
    go_wp2
    go_ret
    exact ⟨rfl, k1⟩
  have HY := tr_yes hs
  have hn := pr_yes hs
  have hu0 : ¬ prU zs < 0 := by rw [hn.1]; omega
  have hcase : (prD zs < prU zs ∧ trV zs = 1) ∨ (¬ prD zs < prU zs ∧ prU zs < prD zs ∧ trV zs = -1) ∨ (¬ prD zs < prU zs ∧ ¬ prU zs < prD zs ∧ trV zs = 0) := by
    rw [HY]; split
    · left; exact ⟨by assumption, rfl⟩
    · split
      · right; left; exact ⟨by assumption, by assumption, rfl⟩
      · right; right; exact ⟨by assumption, by assumption, rfl⟩
  clear hs HY hn
  generalize prU zs = u at *
  generalize prD zs = d at *
  generalize trV zs = t at *
  rcases hcase with ⟨h1, rfl⟩ | ⟨h1, h2, rfl⟩ | ⟨h1, h2, rfl⟩
  all_goals
    go_enter Try.func25, Try.ntmps25
    go_wp2_with fail
    refine HPP.out.mono ?_
    rintro e w1 ⟨rfl, k1⟩
    go_wp2
    go_ret
    exact ⟨rfl, k1⟩
end Go.Proofs.Ytlaajompcbmdoac
