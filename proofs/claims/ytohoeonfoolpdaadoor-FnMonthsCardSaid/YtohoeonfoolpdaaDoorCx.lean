/- DateValid of the model: a year and a month that there are. -/
import Derived.Test.YtohoeonfoolpdaaDoorCm
namespace Go.Proofs.YtohoeonfoolpdaaDoor
open Go.RowKit
set_option linter.unusedVariables false

set_option maxHeartbeats 2000000 in
theorem dvs_yes (y m d c : Int) (w : World) (hc : cOne c = true) (hy : yOk y = true) (y1 : 1 ≤ y) (y3 : y ≤ 2201) (hm : inB m 1 12 = true) :
    Calls Tryd.prog 44 #[.agg #[.int .i64 y, .int .i64 m, .int .i64 d], .int .i64 c] w fun e w' => e = .returned (.bool (dv y m d c)) ∧ Keep w w' := by
  have E := Lib.hid (dv_in (d := d) hc hy hm)
  have hm' : 1 ≤ m ∧ m ≤ 12 := by simpa [inB] using hm
  obtain ⟨m1, m2⟩ := hm'
  have hi : inB y 1 2200 = true := hy
  clear hy
  go_enter Tryd.func44, Tryd.ntmps44
  go_wp2_with fail
  have c0 : (w.alloc (.cells #[.int .i64 y, .int .i64 m, .int .i64 d] 38)).cell? ⟨w.heap.size, 0, none⟩ = some (.int .i64 y) := by go_simp
  have c1 : (w.alloc (.cells #[.int .i64 y, .int .i64 m, .int .i64 d] 38)).cell? ⟨w.heap.size, 1, none⟩ = some (.int .i64 m) := by go_simp
  have c2 : (w.alloc (.cells #[.int .i64 y, .int .i64 m, .int .i64 d] 38)).cell? ⟨w.heap.size, 2, none⟩ = some (.int .i64 d) := by go_simp
  have k0 : Keep w (w.alloc (.cells #[.int .i64 y, .int .i64 m, .int .i64 d] 38)) := (Keep.refl w).alloc _
  generalize (w.alloc (.cells #[.int .i64 y, .int .i64 m, .int .i64 d] 38)) = W0 at *
  go_region_held3 (fun w' => Keep W0 w' ∧ w'.cell? ⟨w.heap.size, 0, none⟩ = some (.int .i64 y) ∧ w'.cell? ⟨w.heap.size, 1, none⟩ = some (.int .i64 m) ∧ w'.cell? ⟨w.heap.size, 2, none⟩ = some (.int .i64 d)) ((go_split_ands; refine (fun hK => ⟨hK, hK.cell c0, hK.cell c1, hK.cell c2⟩ : Keep W0 _ → _) ?_; (repeat' (first | with_reducible assumption | with_reducible exact Keep.refl _ | with_reducible refine Keep.drew ?_ | with_reducible refine Keep.drewN ?_ _ | with_reducible refine Keep.alloc ?_ _ | with_reducible refine Keep.trans ?_ hk))))
    (first | (go_at_call 50; refine (sc_any _ _).mono ?_; rintro e w' ⟨rfl, rfl⟩) | (go_at_call 49; refine (l6In_any _ _ _ _).mono ?_; rintro e w' ⟨rfl, rfl⟩) | (go_at_call 58; refine (mon_spec y m c _ hc y1 y3 m1 m2).mono ?_; rintro e w' ⟨rfl, hk⟩; go_split_ands; have hK : Keep W0 w' := Keep.trans (by (repeat' (first | with_reducible assumption | with_reducible exact Keep.refl _ | with_reducible refine Keep.drew ?_ | with_reducible refine Keep.drewN ?_ _ | with_reducible refine Keep.alloc ?_ _ | with_reducible refine Keep.trans ?_ hk))) hk))
  all_goals
    go_wp2
    go_ret
    exact ⟨retB E.out.symm, k0.trans (by (repeat' (first | with_reducible assumption | with_reducible exact Keep.refl _ | with_reducible refine Keep.drew ?_ | with_reducible refine Keep.drewN ?_ _ | with_reducible refine Keep.alloc ?_ _ | with_reducible refine Keep.trans ?_ hk)))⟩
end Go.Proofs.YtohoeonfoolpdaaDoor
