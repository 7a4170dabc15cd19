/- P132: no days between. -/
import Derived.Test.YtdccpdclpidnbacSb2
import Derived.Test.YtdccpdclpidnbacDrSb
import Derived.Test.YtdccpdclpidnbacFr
import Derived.LoopTactic
import Derived.IntWalk
namespace Go.Proofs.Ytdccpdclpidnbac
open Go.RowKit
set_option linter.unusedVariables false

theorem sb_none {ss : List R2} {f t : Int} (h : sbB ss f t = true) : sbV ss t t = (0, 0) ∧ sbB ss t t = true ∧ sbB ss t f = (f == t) := by
  obtain ⟨h1, h2, h3, h4⟩ := sbB_facts h
  have h5 : sbB ss t t = true := sbB_mk h1 (by omega) h4 h4
  refine ⟨by rw [sbV_yes h5]; simp, h5, ?_⟩
  by_cases e : f = t
  · subst e; rw [h]; simp
  · rw [sbB_arg (by omega)]; simp [e]
set_option maxRecDepth 100000 in
set_option maxHeartbeats 6400000 in
theorem walk_FnSumBetweenNone (a0 : Option Addr) (len0 cap0 : Nat) (z0 : List Int) (w : World) (w0 : IsRow .u8 w a0 len0 cap0 z0) :
    Calls Try.prog 13 #[.slice a0 len0 cap0] w fun e w' => e = .returned (.bool true) ∧ Below w.heap.size w w' := by
  have ha := code_of_row w0
  obtain ⟨hl0, hm0⟩ := ha.1
  unfold maxLen at hm0
  clear w0
  by_cases h : len0 ≤ 1048576
  case' neg =>
    have hd : decide (1048576 < (len0 : Int)) = true := by simp; omega
    go_enter Try.func13, Try.ntmps13
    go_wp2
    go_ret
    exact ⟨rfl, Below.refl _ _⟩
  have hd : decide (1048576 < (len0 : Int)) = false := by simp; omega
  go_enter Try.func13, Try.ntmps13
  go_wp2_with fail
  refine (drawSumBetween a0 len0 cap0 _ ha).mono ?_
  rintro e w1 ⟨a, c, ss, f, t, rfl, hl13, hR1, k1⟩
  have HI := Lib.hid (fun f t W (h : Keep w1 W) => sb_implA a c ss f t W (hR1.keep h) (by omega))
  have HS := Lib.hid (fun f t W (h : Keep w1 W) => sb_specA a c ss f t W (hR1.keep h) (by omega))
  have HI1 := Lib.hid (fun W (h : Keep w1 W) => HI.out f t W h)
  have HS1 := Lib.hid (fun W (h : Keep w1 W) => HS.out f t W h)
  have HI2 := Lib.hid (fun W (h : Keep w1 W) => HI.out t t W h)
  have HI3 := Lib.hid (fun W (h : Keep w1 W) => HI.out t f W h)
  clear ha HI HS
  have HT := Lib.hid (fun h : sbB ss f t = true => sb_none h)
  generalize sbV ss f t = V at HI1 HS1
  obtain ⟨v1, v2⟩ := V
  generalize hBB : sbB ss f t = B at HI1 HS1 HT
  clear hBB
  go_wp2_with fail
  refine (HI1.out _ (Keep.refl _)).mono ?_
  rintro e w2 ⟨rfl, k2⟩
  go_wp2_with fail
  refine (HS1.out _ (k2.alloc _)).mono ?_
  rintro e w3 ⟨rfl, k3⟩
  have k13 : Keep w1 w3 := (k2.alloc _).trans k3
  have k3' := k3.alloc (.cells #[.int .i64 v1, .int .i64 v2] 41)
  have S0 : (w3.alloc (.cells #[.int .i64 v1, .int .i64 v2] 41)).cell? ⟨w2.heap.size, 0, none⟩ = some (.int .i64 v1) := k3'.new 0 rfl
  have S1 : (w3.alloc (.cells #[.int .i64 v1, .int .i64 v2] 41)).cell? ⟨w2.heap.size, 1, none⟩ = some (.int .i64 v2) := k3'.new 1 rfl
  cases B
  case' false =>
    go_wp2
    go_ret
    exact ⟨rfl, k1.trans (k13.alloc _)⟩
  obtain ⟨e1, e2, e3⟩ := HT.out rfl
  rw [e1, e2] at HI2
  rw [e3] at HI3
  clear e1 e2 e3
  have k14 := k13.alloc (.cells #[.int .i64 v1, .int .i64 v2] 41)
  go_wp2_with fail
  refine (HI2.out _ k14).mono ?_
  rintro e w5 ⟨rfl, k5⟩
  have k15 := (k14.trans k5).alloc (.cells #[.int .i64 0, .int .i64 0] 41)
  go_wp2_with fail
  refine (HI3.out _ k15).mono ?_
  rintro e w6 ⟨rfl, k6⟩
  have Z0 : w6.cell? ⟨w5.heap.size, 0, none⟩ = some (.int .i64 0) := k6.new 0 rfl
  have Z1 : w6.cell? ⟨w5.heap.size, 1, none⟩ = some (.int .i64 0) := k6.new 1 rfl
  generalize sbV ss t f = V3 at *
  obtain ⟨u1, u2⟩ := V3
  have k16 := (k15.trans k6).alloc (.cells #[.int .i64 u1, .int .i64 u2] 41)
  have kz := (Keep.refl w6).alloc (.cells #[.int .i64 u1, .int .i64 u2] 41)
  have Y0 := kz.cell Z0
  have Y1 := kz.cell Z1
  clear Z0 Z1 S0 S1
  go_wp2
  go_ret
  exact ⟨rfl, k1.trans k16⟩

end Go.Proofs.Ytdccpdclpidnbac
