/- VersionOf: the program answers as its model, and leaves its argument alone. -/
import Derived.Test.YtlaajompcbmdoabVo
import Derived.Test.YtlaajompcbmdoabKy
import Derived.Test.YtlaajompcbmdoabTr
import Derived.Test.YtlaajompcbmdoabFr
import Derived.Deep.RegionHeld3
import Derived.Outline
namespace Go.Proofs.Ytlaajompcbmdoab
open Go.RowKit
set_option linter.unusedVariables false

set_option maxRecDepth 100000 in
set_option maxHeartbeats 4000000 in
theorem walk_FnExactVersionOf (a0 : Option Addr) (len0 cap0 : Nat) (z0 : Nat → Nat → Int) (a1 : Int) (z2 : Nat → Int) (w : World) (w0 : IsRows 4 w a0 len0 cap0 z0) (w1 : (Lit.int .i64 a1).wf = true) (w2 : ∀ j, j < 3 → (Lit.int .i64 (z2 j)).wf = true) :
    Calls Try.prog 6 #[.slice a0 len0 cap0, .int .i64 a1, .agg #[.int .i64 (z2 0), .int .i64 (z2 1), .int .i64 (z2 2)]] w fun e w' => e = .returned (.bool true) ∧ Below w.heap.size w w' := by
  obtain ⟨y0, hl0, hL0, ⟨hm0, hM0⟩⟩ := rs_of_rows w0
  subst hl0
  clear w0
  unfold maxLen at hM0
  clear w1 w2
  generalize z2 0 = s, z2 1 = d, z2 2 = t
  by_cases h0 : y0.length ≤ 1048576
  case' neg =>
    go_enter Try.func6, Try.ntmps6
    go_wp2_with (go_at_call 15; refine (sz_big _ _ _ _ (by omega) (by omega)).mono ?_; rintro e w' ⟨rfl, rfl⟩)
    go_ret
    exact ⟨rfl, (Below.refl _ _).alloc (Nat.le_refl _) _⟩
  have hd0 : decide (1048576 - (y0.length : Int) < 0) = false := by simp; omega
  go_enter Try.func6, Try.ntmps6
  go_wp2_with fail
  refine (sz_any _ _ _ _ h0).mono ?_
  rintro e w' ⟨rfl, rfl⟩
  go_wp2_with fail
  obtain ⟨W0, hW0⟩ : ∃ W0, W0 = w.alloc (.cells #[.int .i64 s, .int .i64 d, .int .i64 t] 24) := ⟨_, rfl⟩
  have p0 : W0.cell? ⟨w.heap.size, 0, none⟩ = some (.int .i64 s) := by rw [hW0]; go_simp
  have p1 : W0.cell? ⟨w.heap.size, 1, none⟩ = some (.int .i64 d) := by rw [hW0]; go_simp
  have p2 : W0.cell? ⟨w.heap.size, 2, none⟩ = some (.int .i64 t) := by rw [hW0]; go_simp
  have K0 : Keep w W0 := by rw [hW0]; exact (Keep.refl w).alloc _
  rw [← hW0]
  clear hW0
  have HSa : ∀ W, Keep W0 W → (W.cell? ⟨w.heap.size, 0, none⟩ = some (.int .i64 s) ∧ W.cell? ⟨w.heap.size, 1, none⟩ = some (.int .i64 d) ∧ W.cell? ⟨w.heap.size, 2, none⟩ = some (.int .i64 t)) := fun W k => ⟨k.cell p0, k.cell p1, k.cell p2⟩
  go_wp2_with fail
  go_region_held3 (fun w' => w'.cell? ⟨w.heap.size, 0, none⟩ = some (.int .i64 s) ∧ w'.cell? ⟨w.heap.size, 1, none⟩ = some (.int .i64 d) ∧ w'.cell? ⟨w.heap.size, 2, none⟩ = some (.int .i64 t)) ((first | (go_simp; done) | exact HSa _ (Keep.refl _) | exact HSa _ ((Keep.refl _).drewN 1) | exact HSa _ kk1 | exact HSa _ kk2 | exact HSa _ kk3 | go_keep))
    (first
      | (go_at_call 17; refine (toR_any _ _ y0 _ (hL0.keep ((K0.drewN 1))) h0).mono ?_; rintro e w1 ⟨g1, hg1, rfl, hW1, kk1', hl1⟩; have kk1 : Keep W0 w1 := Keep.trans ((Keep.refl W0).drewN 1) kk1')
      | (go_at_call 18; refine (toKey3 s d t _).mono ?_; rintro e w2 ⟨rfl, kk2'⟩; have kk2 : Keep W0 w2 := Keep.trans kk1 kk2')
      | (go_at_call 31; refine (vo_spec _ _ y0 a1 s d t _ (hW1.keep kk2').rs (by omega) (by omega)).mono ?_; rintro e w3 ⟨rfl, kk3'⟩; have kk3 : Keep W0 w3 := Keep.trans kk2 kk3'))
  have K3 := K0.trans kk3
  have p0' := kk3.cell p0
  have p1' := kk3.cell p1
  have p2' := kk3.cell p2
  clear HSa kk1 kk2 kk3 kk1' kk2' kk3' K0 hW1
  go_wp2_with fail
  refine (toR_any _ _ y0 _ (hL0.keep K3) h0).mono ?_
  rintro e w4 ⟨g4, hg4, rfl, hW4, kk4, hl4⟩
  have p0'' := kk4.cell p0'
  have p1'' := kk4.cell p1'
  have p2'' := kk4.cell p2'
  have K4 := K3.trans kk4
  go_wp2_with fail
  refine (toKey3 s d t _).mono ?_
  rintro e w5 ⟨rfl, kk5'⟩
  have kk5 : Keep w4 w5 := kk5'
  go_wp2_with fail
  refine (vo_impl _ _ y0 a1 s d t _ (hW4.keep kk5).rs (by omega) (by omega)).mono ?_
  rintro e w6 ⟨rfl, kk6'⟩
  have kk6 : Keep w4 w6 := kk5.trans kk6'
  have K6 := K4.trans kk6
  go_wp2_with fail
  refine (toR_any _ _ y0 _ (hL0.keep K6) h0).mono ?_
  rintro e w7 ⟨g7, hg7, rfl, hW7, kk7, hl7⟩
  have hx := (hW4.keep kk6).keep kk7
  go_wp2_with fail
  refine (eqR_same _ _ _ _ y0 _ hx.rs hW7.rs h0).mono ?_
  rintro e w8 ⟨rfl, kk8⟩
  go_wp2
  go_ret
  exact ⟨rfl, (K6.trans kk7).trans kk8⟩
end Go.Proofs.Ytlaajompcbmdoab
