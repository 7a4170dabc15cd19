/- DateValid of the model. -/
import Derived.Test.YtohoeonfoolpdaaDoorCx
namespace Go.Proofs.YtohoeonfoolpdaaDoor
open Go.RowKit
set_option linter.unusedVariables false

set_option maxHeartbeats 1000000 in
theorem dv_spec (y m d c : Int) (w : World) :
    Calls Tryd.prog 44 #[.agg #[.int .i64 y, .int .i64 m, .int .i64 d], .int .i64 c] w fun e w' => e = .returned (.bool (dv y m d c)) ∧ Keep w w' := by
  rcases Bool.eq_false_or_eq_true (cOne c) with hc | hc
  · rcases Bool.eq_false_or_eq_true (yOk y) with hy | hy
    · obtain ⟨y1, y2⟩ := yOk_facts hy
      have y3 : y ≤ 2201 := by omega
      rcases Bool.eq_false_or_eq_true (inB m 1 12) with hm | hm
      · exact dvs_yes y m d c w hc hy y1 y3 hm
      · have E2 := Lib.hid (dv_nm (y := y) (d := d) (c := c) hm)
        have hi : inB y 1 2200 = true := hy
        clear hy
        go_enter Tryd.func44, Tryd.ntmps44
        go_wp2_with fail
        go_quiet ((first | (go_at_call 50; exact quietS (Calls.lit hc (sc_any _ _))) | (go_at_call 49; first | (with_reducible exact quietS (Calls.lit hi (l6In_any y _ _ _))) | (with_reducible exact quietS (Calls.lit hm (l6In_any m _ _ _))))))
        go_wp2
        go_ret
        exact ⟨retB E2.out.symm, ((Keep.refl _).alloc _).drewN _⟩
    · have E2 := Lib.hid (dv_ny (m := m) (d := d) (c := c) hy)
      have hi : inB y 1 2200 = false := hy
      clear hy
      go_enter Tryd.func44, Tryd.ntmps44
      go_wp2_with fail
      go_quiet ((first | (go_at_call 50; exact quietS (Calls.lit hc (sc_any _ _))) | (go_at_call 49; first | (with_reducible exact quietS (Calls.lit hi (l6In_any y _ _ _))) | (with_reducible exact quietS (Calls.lit hm (l6In_any m _ _ _))))))
      go_wp2
      go_ret
      exact ⟨retB E2.out.symm, ((Keep.refl _).alloc _).drewN _⟩
  · have E2 := Lib.hid (dv_nc (y := y) (m := m) (d := d) hc)
    go_enter Tryd.func44, Tryd.ntmps44
    go_wp2_with fail
    go_quiet ((first | (go_at_call 50; exact quietS (Calls.lit hc (sc_any _ _))) | (go_at_call 49; first | (with_reducible exact quietS (Calls.lit hi (l6In_any y _ _ _))) | (with_reducible exact quietS (Calls.lit hm (l6In_any m _ _ _))))))
    go_wp2
    go_ret
    exact ⟨retB E2.out.symm, ((Keep.refl _).alloc _).drewN _⟩
end Go.Proofs.YtohoeonfoolpdaaDoor
