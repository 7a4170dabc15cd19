/- P62: what is read is valid. -/
import Derived.Test.YtpdpcnblpcalaaaDoorMvgkgegoab
import Derived.Test.YtpdpcnblpcalaaaDoorDrBt
import Derived.Test.YtpdpcnblpcalaaaDoorDrSa
import Derived.Test.YtpdpcnblpcalaaaDoorFr
namespace Go.Proofs.YtpdpcnblpcalaaaDoor
open Go.RowKit
set_option linter.unusedVariables false

set_option maxRecDepth 1000000 in
set_option maxHeartbeats 6400000 in
theorem walk_FnBulletinParse (a0 : Option Addr) (len0 cap0 : Nat) (z0 : List Int) (w : World) (w0 : IsRow .u8 w a0 len0 cap0 z0) (T : TabsE w) :
    Calls Tryd.prog 4 #[.slice a0 len0 cap0] w fun e w' => e = .returned (.bool true) ∧ Below w.heap.size w w' := by
  have ha := code_of_row w0
  obtain ⟨hl0, hm0⟩ := ha.1
  unfold maxLen at hm0
  clear w0
  by_cases h : len0 ≤ 1048576
  case' neg =>
    have hd : decide (1048576 < (len0 : Int)) = true := by simp; omega
    go_enter Tryd.func4, Tryd.ntmps4
    go_wp2
    go_ret
    exact ⟨rfl, Below.refl _ _⟩
  have hd : decide (1048576 < (len0 : Int)) = false := by simp; omega
  go_enter Tryd.func4, Tryd.ntmps4
  have HT := Lib.hid T
  clear T
  go_wp2_with fail
  refine (drawBulletinParse a0 len0 cap0 _ ha).mono ?_
  rintro e w1 ⟨x, rfl, hx, k1⟩
  clear ha
  have hxs : x.size ≤ 1048576 := by omega
  obtain ⟨rs, b, hl, hB, _, hBN, hone⟩ := bp_one x
  have H1 := Lib.hid (fun W => (bp_spec x W hxs).mono (hone W))
  have H2 := Lib.hid (fun W (hT : TabsE W) => (bp_impl x W hT hxs).mono (hone W))
  have HZ : rs.length ≤ 1048576 := by omega
  have HB := Lib.hid hB
  clear hone hB hBN
  have hbb : (b != b) = false := by simp
  go_wp2_with fail
  refine (H2.out _ (HT.out.keep k1)).mono ?_
  rintro e w2 ⟨p2, q2, rfl, hq2, hF2, k2⟩
  have c2 := k1.trans k2
  go_wp2_with fail
  refine (H1.out _).mono ?_
  rintro e w3 ⟨p3, q3, rfl, hq3, hF3, k3⟩
  have c3 := c2.trans k3
  have L3 := hF2.rs.keep k3
  have HSR := Lib.hid (fun W (hk : Keep w3 W) => sR_same p2 p3 q2 q3 rs W (L3.keep hk) (hF3.rs.keep hk) HZ)
  clear H1 H2 hF2 hF3
  go_wp2_with fail
  refine (HSR.out _ (Keep.refl _)).mono ?_
  rintro e w4 ⟨rfl, k4⟩
  have c4 := c3.trans k4
  cases b
  · go_wp2_with fail
    refine (HSR.out _ k4).mono ?_
    rintro e w5 ⟨rfl, k5⟩
    go_wp2
    go_ret
    exact ⟨rfl, c4.trans k5⟩
  have HL4 := Lib.hid (L3.keep k4)
  obtain ⟨HAS, HSV, HGD⟩ : Hid (AscR rs) ∧ Hid (stB rs = true) ∧ Hid (∀ W, TabsE W → Calls Tryd.prog 10 #[.string x] W fun e w' => e = .returned (.bool true) ∧ Keep W w') := by
    obtain ⟨s, t, f, zs, hb, rfl⟩ := HB.out rfl
    exact ⟨Lib.hid (bvR_asc s t f zs zs.length), Lib.hid (bvR_ok hb.1), Lib.hid (fun W hT => bg_bt hb W hT hxs)⟩
  have HT4 := Lib.hid (HT.out.keep c4)
  clear HB HSR L3 k1 k2 k3 k4 c2 c3 HT
  go_wp2_with fail
  go_loopw [8] (fun i wr => ∃ k : Nat, (k ≤ rs.length ∨ k = 1) ∧ 1 ≤ k ∧ i = .int .i64 k ∧ Keep w4 wr) (fun i _ => rs.length - (RowKit.intOf i).toNat)
  case atStart => exact ⟨1, .inr rfl, Nat.le_refl _, rfl, Keep.refl _⟩
  case round =>
    obtain ⟨k, hk, hk1, rfl, hK⟩ := hrel
    by_cases hlt : k < rs.length
    · obtain ⟨j, hj⟩ : ∃ j, Hid (k = j + 1) := ⟨k - 1, Lib.hid (by omega)⟩
      have L := HL4.out.keep hK
      obtain ⟨b1, o1, e1, hb1, hc0⟩ := L.at_ (i := 0) (by omega)
      obtain ⟨b2, o2, e2, hb2, hc1⟩ := L.at_ hlt
      obtain ⟨b3, o3, e3, hb3, hc2⟩ := L.at_ (i := j) (by have := hj.out; omega)
      obtain ⟨rfl, rfl⟩ : b2 = b1 ∧ o2 = o1 := by rw [e1] at e2; simp at e2; exact ⟨e2.1.symm, e2.2.symm⟩
      obtain ⟨rfl, rfl⟩ : b3 = b2 ∧ o3 = o2 := by rw [e1] at e3; simp at e3; exact ⟨e3.1.symm, e3.2.symm⟩
      subst e1
      clear e2 e3 L
      have hs := (HAS.out.1 k hlt).1
      have ht := (HAS.out.1 k hlt).2
      have hdl := HAS.out.2 j (by have := hj.out; omega)
      rw [← hj.out] at hdl
      obtain ⟨s0, _, k0, _⟩ := hc0
      obtain ⟨s1, d1, k1, _⟩ := hc1
      obtain ⟨_, d2, _, _⟩ := hc2
      rw [hs] at s1
      rw [ht] at k1
      rw [Nat.zero_mul, Nat.add_zero] at s0 k0
      clear hs ht
      generalize rS (rs.getD 0 r0) = S at *
      generalize rK (rs.getD 0 r0) = K at *
      generalize rD (rs.getD k r0) = D1 at *
      generalize rD (rs.getD j r0) = D0 at *
      have e1 : (S != S) = false := by simp
      have e2 : (K != K) = false := by simp
      have e3 : decide (D1 ≤ D0) = false := decide_eq_false (by omega)
      have e4 : ¬ D1 ≤ D0 := by omega
      have w1 : IntKind.i64.wrap ((k : Int) - 1) = (j : Int) := by
        rw [show (k : Int) - 1 = (j : Int) by have := hj.out; omega]; exact IntWalk.i64_in _ (by have := hj.out; omega)
      have j0 : (0 : Int) ≤ (j : Int) := by omega
      have j1 : (j : Int) < (rs.length : Int) := by have := hj.out; omega
      have j2 : j < rs.length := by have := hj.out; omega
      have l0 : 0 < rs.length := by omega
      go_wp2_with fail
      go_quiet (fail)
      go_wp2
      go_roundw
      case rel => exact ⟨k + 1, .inl (by omega), by omega, by go_num, hK.drewN _⟩
      case measure => simp [RowKit.intOf]; omega
    · have hge : rs.length ≤ k := by omega
      have HT9 := HT4.out.keep hK
      go_wp2_with fail
      refine (sv_impl _ _ rs _ (HL4.out.keep hK) (by omega)).mono ?_
      rintro e w5 ⟨he, k5⟩
      rw [HSV.out] at he
      subst he
      go_wp2_with fail
      refine (HGD.out _ (HT9.keep k5)).mono ?_
      rintro e w6 ⟨rfl, k6⟩
      go_wp2
      go_ret
      exact ⟨rfl, ((c4.trans hK).trans k5).trans k6⟩
end Go.Proofs.YtpdpcnblpcalaaaDoor
