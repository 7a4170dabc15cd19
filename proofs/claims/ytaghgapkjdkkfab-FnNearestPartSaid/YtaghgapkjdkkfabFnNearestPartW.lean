/- P54: fewer are the first ones. -/
import Derived.Test.YtaghgapkjdkkfabDrSj
import Derived.Test.YtaghgapkjdkkfabNw
import Derived.Test.YtaghgapkjdkkfabFr
import Derived.LoopTactic
import Derived.IntWalk
import Derived.Deep.RegionHeld3
import Derived.BigQuiet
namespace Go.Proofs.Ytaghgapkjdkkfab
open Go.RowKit
set_option linter.unusedVariables false

theorem nr_part {ts : List R3} {st many : Int} {m : Nat} (h : nrOk ts st many = true) (hm : m + 1 = (nrL ts st many).length) : nrL ts st (m : Int) = (nrL ts st many).take m := by
  obtain ⟨hs, hp, m0, m6⟩ := nrOk_facts h
  have hl := hm
  rw [nrL_yes h, List.length_map, List.length_take] at hl
  have h2 : nrOk ts st (m : Int) = true := by
    rw [nrOk, hs, decide_eq_true hp]; simp [inB]; omega
  rw [nrL_yes h, nrL_yes h2, ← List.map_take, List.take_take, Int.toNat_natCast, Nat.min_eq_left (by omega)]
theorem ls_take {w : World} {a : Option Addr} {zs : List Int} (h : Ls w a zs) (n : Nat) : Ls w a (zs.take n) := by
  rcases h with rfl | ⟨b, off, ha, hb, h⟩
  · left; simp
  · refine .inr ⟨b, off, ha, hb, fun i hi => ?_⟩
    rw [List.length_take] at hi
    have e : (zs.take n).getD i 0 = zs.getD i 0 := by simp [List.getD_eq_getElem?_getD, show i < n by omega]
    rw [e]; exact h i (by omega)
set_option maxRecDepth 100000 in
set_option maxHeartbeats 6400000 in
theorem walk_FnNearestPart (a0 : Option Addr) (len0 cap0 : Nat) (z0 : List Int) (w : World) (w0 : IsRow .u8 w a0 len0 cap0 z0) :
    Calls Try.prog 5 #[.slice a0 len0 cap0] w fun e w' => e = .returned (.bool true) ∧ Below w.heap.size w w' := by
  have ha := code_of_row w0
  obtain ⟨hl0, hm0⟩ := ha.1
  unfold maxLen at hm0
  clear w0
  by_cases h : len0 ≤ 1048576
  case' neg =>
    have hd : decide (1048576 < (len0 : Int)) = true := by simp; omega
    go_enter Try.func5, Try.ntmps5
    go_wp2
    go_ret
    exact ⟨rfl, Below.refl _ _⟩
  have hd : decide (1048576 < (len0 : Int)) = false := by simp; omega
  go_enter Try.func5, Try.ntmps5
  go_wp2_with fail
  refine (drawNearestOf a0 len0 cap0 _ ha).mono ?_
  rintro e w1 ⟨g0, c0, ts, st, many, rfl, hl7, hcl, hS1, ⟨mn, mx⟩, k1⟩
  clear ha
  have hz := nrL_len ts st many
  go_wp2_with fail
  refine (nr_impl _ c0 ts st many _ hS1 (by omega)).mono ?_
  rintro e w2 ⟨p, q, rfl, hpq, hF2, k2⟩
  go_wp2_with fail
  refine (nr_spec _ c0 ts st many _ (hS1.keep k2) (by omega)).mono ?_
  rintro e w3 ⟨g3, q3, rfl, hq3, hW3, hg3, hl3, k3⟩
  have K3 : Keep w w3 := (k1.trans k2).trans k3
  have hO := hF2.ls.keep k3
  have hT := (hS1.keep k2).keep k3
  have HSE := Lib.hid (fun W (k : Keep w3 W) => sI_eq p (some ⟨g3, 0, none⟩) q q3 (nrL ts st many) W (hO.keep k) (hW3.ls.keep k) (by omega))
  clear hF2 hW3 hS1 k1 k2 k3
  by_cases h0 : (nrL ts st many).length = 0
  case' pos =>
    have h02 : (((nrL ts st many).length : Int) == 0) = true := beq_iff_eq.2 (by omega)
    replace h0 := Lib.hid h0
    generalize nrL ts st many = L at *
    go_wp2_with fail
    refine (HSE.out _ (Keep.refl _)).mono ?_
    rintro e w4 ⟨rfl, k4⟩
    go_wp2_with fail
    refine (HSE.out _ k4).mono ?_
    rintro e w5 ⟨rfl, k5⟩
    go_wp2
    go_ret
    exact ⟨rfl, (K3.trans k4).trans k5⟩
  have h02 : (((nrL ts st many).length : Int) == 0) = false := beq_eq_false_iff_ne.2 (by omega)
  have hok : nrOk ts st many = true := by
    rcases Bool.eq_false_or_eq_true (nrOk ts st many) with h9 | h9
    · exact h9
    · rw [nrL_no h9] at h0; exact absurd rfl h0
  obtain ⟨m, hm⟩ : ∃ m, m + 1 = (nrL ts st many).length := ⟨(nrL ts st many).length - 1, by omega⟩
  have HPT := Lib.hid (nr_part hok hm)
  have hmi : ((nrL ts st many).length : Int) - 1 = (m : Int) := by omega
  have HTL : Hid (((nrL ts st many).take m).length = m) := Lib.hid (by rw [List.length_take]; omega)
  have hmq : (m : Int) ≤ (q : Int) := by omega
  have hm0' : (0 : Int) ≤ (m : Int) := by omega
  have HIM := Lib.hid (fun W (k : Keep w3 W) => nr_impl (some ⟨g0, 0, none⟩) c0 ts st (m : Int) W (hT.keep k) (by omega))
  rw [HPT.out] at HIM
  generalize nrL ts st many = L at *
  have hOT := Lib.hid (ls_take hO m)
  clear hm
  go_wp2_with fail
  refine (HSE.out _ (Keep.refl _)).mono ?_
  rintro e w4 ⟨rfl, k4⟩
  go_wp2_with fail
  refine (HIM.out _ k4).mono ?_
  rintro e w5 ⟨p5, q5, rfl, hpq5, hF5, k5⟩
  have HE5 := Lib.hid (sI_eq p5 p q5 q (L.take m) w5 hF5.ls ((hOT.out.keep k4).keep k5) (by rw [HTL.out]; omega))
  rw [HTL.out] at HE5 ⊢
  go_wp2_with fail
  refine HE5.out.mono ?_
  rintro e w6 ⟨rfl, k6⟩
  go_wp2
  go_ret
  exact ⟨rfl, ((K3.trans k4).trans k5).trans k6⟩
end Go.Proofs.Ytaghgapkjdkkfab
