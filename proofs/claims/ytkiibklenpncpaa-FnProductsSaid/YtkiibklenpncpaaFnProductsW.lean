/- P145: all products have their value. -/
import Derived.Test.YtkiibklenpncpaaDrPs
import Derived.Test.YtkiibklenpncpaaLw
import Derived.Test.YtkiibklenpncpaaFr
import Derived.Deep.RegionHeld3
import Derived.IntWalk
namespace Go.Proofs.Ytkiibklenpncpaa
open Go.RowKit
set_option linter.unusedVariables false

set_option maxRecDepth 100000 in
set_option maxHeartbeats 6400000 in
theorem walk_FnProducts (a0 : Option Addr) (len0 cap0 : Nat) (z0 : List Int) (w : World) (w0 : IsRow .u8 w a0 len0 cap0 z0) :
    Calls Try.prog 3 #[.slice a0 len0 cap0] w fun e w' => e = .returned (.bool true) ∧ Below w.heap.size w w' := by
  have ha := code_of_row w0
  obtain ⟨hl0, hm0⟩ := ha.1
  unfold maxLen at hm0
  clear w0
  by_cases h : len0 ≤ 1048576
  case' neg =>
    have hd : decide (1048576 < (len0 : Int)) = true := by simp; omega
    go_enter Try.func3, Try.ntmps3
    go_wp2
    go_ret
    exact ⟨rfl, Below.refl _ _⟩
  have hd : decide (1048576 < (len0 : Int)) = false := by simp; omega
  go_enter Try.func3, Try.ntmps3
  go_wp2_with fail
  refine (drawProductsAll a0 len0 cap0 _ ha).mono ?_
  rintro e w1 ⟨gg, c, rs, v, gp, d, ps, rfl, ⟨hl, hcl⟩, ⟨hl7, hcd⟩, hL1, hP1, k1⟩
  clear ha
  have hz := paL_len rs v ps
  go_wp2_with fail
  refine (pa_impl _ c rs v _ d ps _ hL1 (by omega) hcl hP1 (by omega)).mono ?_
  rintro e w2 ⟨p, q, rfl, hq, hF2, k2⟩
  go_wp2_with fail
  refine (pa_spec _ c rs v _ d ps _ (hL1.keep k2) (by omega) hcl (hP1.keep k2) (by omega)).mono ?_
  rintro e w3 ⟨p3, q3, rfl, hq3, hF3, k3⟩
  have K3 : Keep w1 w3 := k2.trans k3
  have hO := hF2.ls.keep k3
  have hW := hF3.ls
  clear hF2 hF3 k2 k3
  rcases Bool.eq_false_or_eq_true (paOk rs v ps) with hs | hs
  case' inr =>
    generalize paL rs v ps = L at *
    rw [hs]
    clear hs
    go_wp2_with fail
    refine (sI_eq p p3 q q3 L _ hO hW (by omega)).mono ?_
    rintro e w5 ⟨rfl, k5⟩
    go_wp2_with fail
    refine (sI_eq p p3 q q3 L _ (hO.keep k5) (hW.keep k5) (by omega)).mono ?_
    rintro e w7 ⟨rfl, k7⟩
    go_wp2
    go_ret
    exact ⟨rfl, ((k1.trans K3).trans k5).trans k7⟩
  have HLn : Hid ((paL rs v ps).length = ps.length) := Lib.hid (by rw [paL_yes hs, pal_len])
  have HG : Hid (∀ k, k < ps.length → pvV rs v (qS (ps.getD k p0)) (qT (ps.getD k p0)) (qF (ps.getD k p0)) (qN (ps.getD k p0)) (qG (ps.getD k p0)) = (paL rs v ps).getD k 0) := Lib.hid (fun k hk => by rw [paL_yes hs, pal_at hk]; rfl)
  have HC0 := Lib.hid (fun (s t f d g : Int) W (k : Keep w1 W) => pvv_impl _ c rs v s t f d g W (hL1.keep k) (by omega) hcl)
  rw [hs]
  clear hs
  generalize paL rs v ps = L at *
  have hlm : ((L.length : Int) == (ps.length : Int)) = true := by have := HLn.out; simp; omega
  go_wp2_with fail
  refine (sI_eq p p3 q q3 L _ hO hW (by omega)).mono ?_
  rintro e w4 ⟨rfl, k4⟩
  have K4 := K3.trans k4
  have O4 := Lib.hid (hO.keep k4)
  have P4 := Lib.hid (hP1.keep K4)
  have HC := Lib.hid (fun (s t f d g : Int) W (k : Keep w4 W) => HC0.out s t f d g W (K4.trans k))
  have KF : Keep w w4 := k1.trans K4
  have hl2 : L.length ≤ 7 := by omega
  clear hO hW K3 k4 K4 HC0 hL1 hP1 k1 hz
  go_wp2_with fail
  go_loopw [10] (fun i wr => ∃ k : Nat, k ≤ L.length ∧ i = .int .i64 k ∧ Keep w4 wr) (fun i _ => L.length - (intOf i).toNat)
  case atStart => exact ⟨0, by omega, rfl, Keep.refl _⟩
  case round =>
    obtain ⟨k, hk, rfl, hKr⟩ := hrel
    by_cases hlt : k < L.length
    · have hkp : k < ps.length := by have := HLn.out; omega
      obtain ⟨b, off, rfl, hb, c0⟩ := (O4.out.keep hKr).at_ hlt
      obtain ⟨b2, off2, he2, hb2, hcc⟩ := (P4.out.keep hKr).at_ hkp
      injection he2 with he2
      injection he2 with he2 he3 _
      subst he2
      subst he3
      obtain ⟨e0, e1, e2, e3, e4⟩ := hcc
      rw [Nat.zero_add] at e0 e1 e2 e3 e4
      have HX := Lib.hid (HG.out k hkp)
      have kz1 : (k : Int) < (L.length : Int) := by omega
      have kz2 : (k : Int) < (ps.length : Int) := by omega
      generalize L.getD k 0 = y at c0 HX
      generalize qS (ps.getD k p0) = x0 at e0 HX
      generalize qT (ps.getD k p0) = x1 at e1 HX
      generalize qF (ps.getD k p0) = x2 at e2 HX
      generalize qN (ps.getD k p0) = x3 at e3 HX
      generalize qG (ps.getD k p0) = x4 at e4 HX

      go_wp2_with fail
      go_region_held3 (fun w' => Keep wr w' ∧ w'.cell? ⟨b, off + k, none⟩ = some (.int .i64 y) ∧ w'.cell? ⟨gp, k * 5, none⟩ = some (.int .i64 x0) ∧ w'.cell? ⟨gp, k * 5 + 1, none⟩ = some (.int .i64 x1) ∧ w'.cell? ⟨gp, k * 5 + 2, none⟩ = some (.int .i64 x2) ∧ w'.cell? ⟨gp, k * 5 + 3, none⟩ = some (.int .i64 x3) ∧ w'.cell? ⟨gp, k * 5 + 4, none⟩ = some (.int .i64 x4))
        ((go_split_ands; refine (fun hK => ⟨hK, hK.cell c0, hK.cell e0, hK.cell e1, hK.cell e2, hK.cell e3, hK.cell e4⟩ : Keep wr _ → _) ?_; (repeat' (first | with_reducible assumption | with_reducible exact Keep.refl _ | with_reducible refine Keep.drew ?_ | with_reducible refine Keep.alloc ?_ _ | with_reducible refine Keep.trans ?_ hk))))
        (first
          | (go_at_call 16; go_split_ands; refine (HC.out _ _ _ _ _ _ (Keep.trans hKr (by (repeat' (first | with_reducible assumption | with_reducible exact Keep.refl _ | with_reducible refine Keep.drew ?_ | with_reducible refine Keep.alloc ?_ _ | with_reducible refine Keep.trans ?_ hk))))).mono ?_; rintro e w' ⟨he, hk⟩; rw [HX.out] at he; subst he; go_split_ands; have hK : Keep wr w' := Keep.trans (by (repeat' (first | with_reducible assumption | with_reducible exact Keep.refl _ | with_reducible refine Keep.drew ?_ | with_reducible refine Keep.alloc ?_ _ | with_reducible refine Keep.trans ?_ hk))) hk))
      all_goals
        have kz : Keep w4 _ := hKr.trans hK
        go_wp2
        go_roundw
        case rel => exact ⟨k + 1, by omega, by go_num, kz⟩
        case measure => simp [intOf]; omega
    · obtain rfl : k = L.length := by omega
      have hn1 : ¬ (L.length : Int) < (ps.length : Int) := by have := HLn.out; omega
      go_wp2
      go_ret
      exact ⟨rfl, KF.trans hKr⟩
end Go.Proofs.Ytkiibklenpncpaa
