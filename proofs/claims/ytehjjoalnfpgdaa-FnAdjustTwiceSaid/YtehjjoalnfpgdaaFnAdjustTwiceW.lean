/- P84: adjusting again changes nothing. -/
import Derived.Test.YtehjjoalnfpgdaaDrAj
import Derived.Test.YtehjjoalnfpgdaaAq
import Derived.Test.YtehjjoalnfpgdaaAt
import Derived.Test.YtehjjoalnfpgdaaAk
import Derived.Test.YtehjjoalnfpgdaaLw
import Derived.Test.YtehjjoalnfpgdaaFr
namespace Go.Proofs.Ytehjjoalnfpgdaa
open Go.RowKit
set_option linter.unusedVariables false

set_option maxRecDepth 100000 in
set_option maxHeartbeats 6400000 in
theorem walk_FnAdjustTwice (a0 : Option Addr) (len0 cap0 : Nat) (z0 : List Int) (w : World) (w0 : IsRow .u8 w a0 len0 cap0 z0) :
    Calls Try.prog 4 #[.slice a0 len0 cap0] w fun e w' => e = .returned (.bool true) ∧ Below w.heap.size w w' := by
  have ha := code_of_row w0
  obtain ⟨hl0, hm0⟩ := ha.1
  unfold maxLen at hm0
  clear w0
  by_cases h : len0 ≤ 1048576
  case' neg =>
    have hd : decide (1048576 < (len0 : Int)) = true := by simp; omega
    go_enter Try.func4, Try.ntmps4
    go_wp2
    go_ret
    exact ⟨rfl, Below.refl _ _⟩
  have hd : decide (1048576 < (len0 : Int)) = false := by simp; omega
  go_enter Try.func4, Try.ntmps4
  go_wp2_with fail
  refine (drawAdjustOf a0 len0 cap0 _ ha).mono ?_
  rintro e w1 ⟨a, b0, ca, cb, zs, cs, rfl, ⟨hl11, hca⟩, ⟨hl13, hcb⟩, hL1, hC1, k1⟩
  clear ha
  have hz := aoL_le zs cs
  go_wp2_with fail
  refine (ao_impl a b0 ca cb zs cs _ hL1 hC1 hca (by omega) (by omega)).mono ?_
  rintro e w2 ⟨p, q, rfl, hq, hF2, k2⟩
  go_wp2_with fail
  refine (ao_spec a b0 ca cb zs cs _ (hL1.keep k2) (hC1.keep k2) hca (by omega) (by omega)).mono ?_
  rintro e w3 ⟨p3, q3, rfl, hq3, hF3, k3⟩
  have K3 : Keep w1 w3 := k2.trans k3
  have hO := hF2.ls.keep k3
  have hW := hF3.ls
  have hL := hL1.keep K3
  have hC := hC1.keep K3
  have KF := k1.trans K3
  clear hF2 hF3 k2 k3 hL1 hC1 K3 k1
  rcases Bool.eq_false_or_eq_true (aoB zs cs) with hs | hs
  case' inr =>
    generalize aoL zs cs = L at *
    rw [hs]
    clear hs
    go_wp2_with fail
    refine (sI_eq p p3 q q3 L _ hO hW (by omega)).mono ?_
    rintro e w5 ⟨rfl, k5⟩
    go_wp2_with fail
    refine (sI_eq p p3 q q3 L _ (hO.keep k5) (hW.keep k5) (by omega)).mono ?_
    rintro e w7 ⟨rfl, k7⟩
    go_wp2
    go_ret
    exact ⟨rfl, (KF.trans k5).trans k7⟩
  obtain ⟨y1, y2, y3, y4, _⟩ := ao_yes hs
  obtain ⟨t1, t2, t3, t4⟩ := ao_twice hs
  obtain ⟨l1, l8, hlc⟩ := ajB_len y1
  obtain ⟨m, hm9⟩ : ∃ m, cs.length + 1 = m := ⟨_, rfl⟩
  have e9 : (cs.length : Int) + 1 = (m : Int) := by omega
  have hm8 : m ≤ 8 := by omega
  rw [hm9] at t4
  obtain ⟨Z, hZ⟩ : ∃ Z, List.replicate m (0 : Int) = Z := ⟨_, rfl⟩
  have hZl : Z.length = m := by rw [← hZ]; simp
  have HAo := Lib.hid (fun W (k : Keep w3 W) => ao_impl p b0 q cb (aoL zs cs) cs W (hO.keep k) (hC.keep k) hq (by omega) (by omega))
  have HAs : Hid (∀ W, Keep w3 W → Calls Try.prog 18 #[.slice p (aoL zs cs).length q, .slice b0 cs.length cb] W fun e w' => ∃ x c, e = .returned (.tuple #[.slice x m c, .bool true]) ∧ Ls w' x Z ∧ Keep W w') := Lib.hid (fun W k => (as_impl p b0 q cb (aoL zs cs) cs W (hO.keep k) (hC.keep k) hq (by omega) (by omega)).mono fun e w' h => by
    obtain ⟨x, c, he, _, hF, k9⟩ := h
    rw [t3, t4, hZ, hZl] at he
    rw [t4, hZ] at hF
    exact ⟨x, c, he, hF.ls, k9⟩)
  have HSm : Hid (∀ x c d W g, Ls W x Z → Ls W (some ⟨g, 0, none⟩) Z → Calls Try.prog 16 #[.slice x m c, .slice (some ⟨g, 0, none⟩) m d] W fun e w' => e = .returned (.bool true) ∧ Keep W w') := Lib.hid (fun x c d W g h1 h2 => by
    have h9 := sI_eq x (some ⟨g, 0, none⟩) c d Z W h1 h2 (by omega)
    rwa [hZl] at h9)
  rw [t1, t2] at HAo
  have hmk := fun W => run_make_row' (P := Try.prog) 23 3 (.int .i64 0) 8 Try.underlying23 infoIntO rfl .i64 .i64 m (by omega) (by omega) W
  have HMade : Hid (∀ W : World, Ls (W.alloc (.cells (madeCells #[.int .i64 0] m) 3)) (some ⟨W.heap.size, 0, none⟩) Z) := Lib.hid (fun W => .inr ⟨W.heap.size, 0, rfl, by simp, fun j hj => by
    rw [hZl] at hj
    rw [World.cell?_alloc_new, Nat.zero_add, made_at _ _ hj, ← hZ]
    simp [List.getD_eq_getElem?_getD, hj]⟩)
  rw [hs]
  clear hs t1 t2 t3 t4 y1 y2 y3 y4 hZ hZl hm9 hL hC hlc l1 l8
  generalize aoL zs cs = L at *
  go_wp2_with fail
  refine (sI_eq p p3 q q3 L _ hO hW (by omega)).mono ?_
  rintro e w4 ⟨rfl, k4⟩
  go_wp2_with fail
  refine (HAo.out _ k4).mono ?_
  rintro e w5 ⟨p5, q5, rfl, hq5, hF5, k5⟩
  go_wp2_with fail
  refine (HAs.out _ (k4.trans k5)).mono ?_
  rintro e w6 ⟨p6, q6, rfl, hL6, k6⟩
  go_wp2_with fail
  refine (sI_eq p5 p q5 q L _ (hF5.ls.keep k6) (((hO.keep k4).keep k5).keep k6) (by omega)).mono ?_
  rintro e w7 ⟨rfl, k7⟩
  have hmk7 := hmk w7
  have HM7 := Lib.hid (HMade.out w7)
  have K7 := (((KF.trans k4).trans k5).trans k6).trans k7
  clear hmk HMade
  go_wp2_with fail
  refine (HSm.out _ _ _ _ _ ((hL6.keep k7).keep ((Keep.refl w7).alloc _)) HM7.out).mono ?_
  rintro e w8 ⟨rfl, k8⟩
  go_wp2
  go_ret
  exact ⟨rfl, (K7.alloc _).trans k8⟩
end Go.Proofs.Ytehjjoalnfpgdaa
