/- DateValid of the program. -/
import Derived.Test.YthlabofegjfmfaaDoorCm
namespace Go.Proofs.YthlabofegjfmfaaDoor
open Go.RowKit
set_option linter.unusedVariables false

set_option maxHeartbeats 4000000 in
theorem dv_impl (y m d c : Int) (w : World) (T : Tabs w) :
    Calls Tryd.prog 22 #[.agg #[.int .i64 y, .int .i64 m, .int .i64 d], .int .i64 c] w fun e w' => e = .returned (.bool (dv y m d c)) ∧ Keep w w' := by
  have T1 : Hid (∀ o n, Tabs ((w.alloc o).drewN n)) := Lib.hid (fun o n => (T.keep ((Keep.refl w).alloc o)).drewN n)
  clear T
  rcases Bool.eq_false_or_eq_true (cOne c) with hc | hc
  · rcases Bool.eq_false_or_eq_true (yOk y) with hy | hy
    · by_cases hm : 1 ≤ m ∧ m ≤ 12
      · obtain ⟨m1, m2⟩ := hm
        have E := Lib.hid (dv_in (d := d) hc hy (show inB m 1 12 = true by simp [inB]; omega))
        obtain ⟨b1, b2⟩ := mlen_bd y m c m1 m2
        by_cases hd : 1 ≤ d
        · go_enter Tryd.func22, Tryd.ntmps22
          go_wp2_with fail
          go_quiet ((first | (go_at_call 35; exact quietS (Calls.lit hc (cv_any _ _))) | (go_at_call 46; exact quietS (Calls.lit hy (yv_any _ _))) | (go_at_call 47; exact quietS (mon_impl y m c _ (T1.out _ _) hc hy m1 m2))))
          go_wp2
          go_ret
          refine ⟨retB ?_, ((Keep.refl _).alloc _).drewN _⟩
          rw [E.out, Bool.eq_iff_iff]; simp [inB, *]
        · have hd' : decide (1 ≤ d) = false := by simp; omega
          have E2 : Hid (dv y m d c = false) := Lib.hid (by rw [E.out]; simp [inB]; omega)
          clear hd
          go_enter Tryd.func22, Tryd.ntmps22
          go_wp2_with fail
          go_quiet ((first | (go_at_call 35; exact quietS (Calls.lit hc (cv_any _ _))) | (go_at_call 46; exact quietS (Calls.lit hy (yv_any _ _)))))
          go_wp2
          go_ret
          exact ⟨retB E2.out.symm, ((Keep.refl _).alloc _).drewN _⟩
      · have E2 := Lib.hid (dv_nm (y := y) (d := d) (c := c) (show inB m 1 12 = false by simp [inB]; omega))
        have hm' : m < 1 ∨ 12 < m := by omega
        clear hm
        rcases hm' with hm | hm
        · have hd' : decide (1 ≤ m) = false := by simp; omega
          clear hm
          go_enter Tryd.func22, Tryd.ntmps22
          go_wp2_with fail
          go_quiet ((first | (go_at_call 35; exact quietS (Calls.lit hc (cv_any _ _))) | (go_at_call 46; exact quietS (Calls.lit hy (yv_any _ _)))))
          go_wp2
          go_ret
          exact ⟨retB E2.out.symm, ((Keep.refl _).alloc _).drewN _⟩
        · have hd' : decide (m ≤ 12) = false := by simp; omega
          have hm1 : 1 ≤ m := by omega
          clear hm
          go_enter Tryd.func22, Tryd.ntmps22
          go_wp2_with fail
          go_quiet ((first | (go_at_call 35; exact quietS (Calls.lit hc (cv_any _ _))) | (go_at_call 46; exact quietS (Calls.lit hy (yv_any _ _)))))
          go_wp2
          go_ret
          exact ⟨retB E2.out.symm, ((Keep.refl _).alloc _).drewN _⟩
    · have E2 := Lib.hid (dv_ny (m := m) (d := d) (c := c) hy)
      go_enter Tryd.func22, Tryd.ntmps22
      go_wp2_with fail
      go_quiet ((first | (go_at_call 35; exact quietS (Calls.lit hc (cv_any _ _))) | (go_at_call 46; exact quietS (Calls.lit hy (yv_any _ _)))))
      go_wp2
      go_ret
      exact ⟨retB E2.out.symm, ((Keep.refl _).alloc _).drewN _⟩
  · have E2 := Lib.hid (dv_nc (y := y) (m := m) (d := d) hc)
    go_enter Tryd.func22, Tryd.ntmps22
    go_wp2_with fail
    go_quiet ((first | (go_at_call 35; exact quietS (Calls.lit hc (cv_any _ _)))))
    go_wp2
    go_ret
    exact ⟨retB E2.out.symm, ((Keep.refl _).alloc _).drewN _⟩
end Go.Proofs.YthlabofegjfmfaaDoor
