/- LineOf: the program answers as its model; its answer is new memory. -/
import Derived.Test.YtdccpdclpidnbabTrL
import Derived.Test.YtdccpdclpidnbabTrD
import Derived.Test.YtdccpdclpidnbabTj
import Derived.Test.YtdccpdclpidnbabMf
import Derived.Test.YtdccpdclpidnbabFr
namespace Go.Proofs.Ytdccpdclpidnbab
open Go.RowKit
set_option linter.unusedVariables false

set_option maxRecDepth 100000 in
set_option maxHeartbeats 1000000 in
theorem walk_FnExactLineOf (a0 : Int) (a1 : Int) (a2 : Int) (w : World) (w0 : (Lit.int .i64 a0).wf = true) (w1 : (Lit.int .i64 a1).wf = true) (w2 : (Lit.int .i64 a2).wf = true) :
    Calls Try.prog 17 #[.int .i64 a0, .int .i64 a1, .int .i64 a2] w fun e w' => e = .returned (.bool true) ∧ Below w.heap.size w w' := by
  clear w0 w1 w2
  have HZ : (liL a0 a1 a2).length ≤ 1048576 := Nat.le_trans (liL_len a0 a1 a2) (by omega)
  go_enter Try.func17, Try.ntmps17
  go_wp2_with fail
  refine ((li_spec a0 a1 a2 _).mono fun _ _ h => FrB_of h).mono ?_
  rintro e w2 ⟨ps, qs, rfl, hFs, k2⟩
  have c2 : Keep w w2 := k2
  have Ls2 := hFs.ls
  have lo := hFs.ls.lo
  go_wp2_with fail
  refine ((li_impl a0 a1 a2 _).mono fun _ _ h => FrB_of h).mono ?_
  rintro e w4 ⟨p4, q4, rfl, hF4, k4⟩
  have c4 : Keep w w4 := Keep.trans c2 k4
  go_wp2_with fail
  refine (eqI_same _ _ _ _ _ _ hF4.ls (Ls2.keep k4) HZ).mono ?_
  rintro e w5 ⟨rfl, n5, rfl⟩
  have c5 := c4.drewN n5
  have k5 := (Keep.refl w4).drewN n5
  have Fd := hF4.keep k5
  have Ld := (Ls2.keep k4).keep k5
  have szk4 := k4.size
  go_wp2_with fail
  refine (markF _ _ _ w2 _ Fd HZ).mono ?_
  rintro e w10 ⟨rfl, hb10, ys, hy, hYs, hMk⟩
  have bd := hb10 (by simp only [World.heap_drewN]; omega)
  have c10 : Keep w w10 := Below.trans c5 (bd.mono c2.size)
  have Le := Ld.below lo bd
  have dm : decide (1 + ((liL a0 a1 a2).length : Int) < 0) = false := by simp; omega
  have HH := Lib.hid (heldI p4 q4 ys w10 hYs hMk (by rw [hy]; exact HZ))
  rw [hy] at HH
  go_wp2_with fail
  refine HH.out.mono ?_
  rintro e w' ⟨rfl, rfl⟩
  go_wp2_with fail
  refine ((li_impl a0 a1 a2 _).mono fun _ _ h => FrB_of h).mono ?_
  rintro e w12 ⟨p12, q12, rfl, hF12, k12⟩
  have c12 : Keep w w12 := Keep.trans c10 k12
  have Lz := Le.keep k12
  have Yz := hYs.keep k12
  go_wp2_with fail
  refine (eqI_same _ _ _ _ _ _ hF12.ls Lz HZ).mono ?_
  rintro e w13 ⟨rfl, n13, rfl⟩
  have c13 := c12.drewN n13
  have HH2 := Lib.hid (heldI p4 q4 ys (w12.drewN n13) (Yz.drewN n13) hMk (by rw [hy]; exact HZ))
  rw [hy] at HH2
  go_wp2_with fail
  refine HH2.out.mono ?_
  rintro e w' ⟨rfl, rfl⟩
  go_wp2
  go_ret
  exact ⟨rfl, c13⟩
end Go.Proofs.Ytdccpdclpidnbab
