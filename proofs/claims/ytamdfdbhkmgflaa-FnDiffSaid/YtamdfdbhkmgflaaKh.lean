/- DiffOf of the program: the value of a version, the function that is handed to slices.DeleteFunc, the keys of a store. -/
import Derived.Test.YtamdfdbhkmgflaaKg
import Derived.Test.YtamdfdbhkmgflaaKc2
import Derived.Test.YtamdfdbhkmgflaaSy
import Derived.Deep.RegionHeld3
import Derived.Outline
namespace Go.Proofs.Ytamdfdbhkmgflaa
open Go.RowKit
set_option linter.unusedVariables false

set_option maxRecDepth 100000 in
set_option maxHeartbeats 2000000 in
theorem kval_any (a : Option Addr) (cap : Nat) (rs : List R4) (n s d t : Int) (w : World) (h : Rs w a rs) (hm : rs.length ≤ 1048576) (hc : rs.length ≤ cap) :
    Calls Try.prog 27 #[.agg #[.slice a rs.length cap, .int .i64 n], .agg #[.int .i64 s, .int .i64 d, .int .i64 t]] w fun e w' => e = .returned (.int .i64 (svV rs n s d t)) ∧ Keep w w' := by
  have HV : Hid (∀ (W : World), Rs W a rs → Calls Try.prog 33 #[.slice a rs.length cap, .int .i64 n, .int .i64 s, .int .i64 d, .int .i64 t] W fun e w' => e = .returned (.int .i64 (svV rs n s d t)) ∧ Keep W w') := Lib.hid (fun W hW => svv_impl a cap rs n s d t W hW (by omega) hc)
  generalize svV rs n s d t = v at HV ⊢
  go_enter Try.func27, Try.ntmps27
  go_wp2_with (go_at_call 33; refine (HV.out _ ((h.alloc _).alloc _)).mono ?_; rintro e w' ⟨rfl, hk⟩)
  go_ret
  exact ⟨rfl, (((Keep.refl w).alloc _).alloc _).trans hk⟩
/-- Whether the values of a key are the same in two versions. -/
def svB (rs : List R4) (A B : Int) (k : K3) : Bool := svV rs A (kS k) (kD k) (kT k) == svV rs B (kS k) (kD k) (kT k)
set_option maxRecDepth 100000 in
set_option maxHeartbeats 4000000 in
theorem cl_any (a : Option Addr) (cap : Nat) (rs : List R4) (A B s d t : Int) (g1 g2 : Nat) (w : World) (h : Rs w a rs) (hm : rs.length ≤ 1048576) (hc : rs.length ≤ cap)
    (c0 : w.cell? ⟨g1, 0, none⟩ = some (.slice a rs.length cap)) (c1 : w.cell? ⟨g1, 1, none⟩ = some (.int .i64 A)) (d0 : w.cell? ⟨g2, 0, none⟩ = some (.slice a rs.length cap)) (d1 : w.cell? ⟨g2, 1, none⟩ = some (.int .i64 B)) :
    Calls Try.prog 26 #[.agg #[.int .i64 s, .int .i64 d, .int .i64 t], .pointer (some ⟨g1, 0, none⟩), .pointer (some ⟨g2, 0, none⟩)] w fun e w' => e = .returned (.bool (svB rs A B (s, d, t))) ∧ Keep w w' := by
  have HB : Hid (svB rs A B (s, d, t) = (svV rs A s d t == svV rs B s d t)) := Lib.hid rfl
  have HV1 : Hid (∀ (W : World), Rs W a rs → Calls Try.prog 27 #[.agg #[.slice a rs.length cap, .int .i64 A], .agg #[.int .i64 s, .int .i64 d, .int .i64 t]] W fun e w' => e = .returned (.int .i64 (svV rs A s d t)) ∧ Keep W w') := Lib.hid (fun W hW => kval_any a cap rs A s d t W hW hm hc)
  have HV2 : Hid (∀ (W : World), Rs W a rs → Calls Try.prog 27 #[.agg #[.slice a rs.length cap, .int .i64 B], .agg #[.int .i64 s, .int .i64 d, .int .i64 t]] W fun e w' => e = .returned (.int .i64 (svV rs B s d t)) ∧ Keep W w') := Lib.hid (fun W hW => kval_any a cap rs B s d t W hW hm hc)
  generalize svV rs A s d t = x at HV1 HB
  generalize svV rs B s d t = y at HV2 HB
  generalize svB rs A B (s, d, t) = z at HB ⊢
  generalize hn : rs.length = n at *
  have y0 := ((Keep.refl w).alloc (.cells #[.int .i64 s, .int .i64 d, .int .i64 t] 33)).cell c0
  have y1 := ((Keep.refl w).alloc (.cells #[.int .i64 s, .int .i64 d, .int .i64 t] 33)).cell c1
  have y2 := ((Keep.refl w).alloc (.cells #[.int .i64 s, .int .i64 d, .int .i64 t] 33)).cell d0
  have y3 := ((Keep.refl w).alloc (.cells #[.int .i64 s, .int .i64 d, .int .i64 t] 33)).cell d1
  have y4 : (w.alloc (.cells #[.int .i64 s, .int .i64 d, .int .i64 t] 33)).cell? ⟨w.heap.size, 0, none⟩ = some (.int .i64 s) := cell_newAt rfl rfl
  have y5 : (w.alloc (.cells #[.int .i64 s, .int .i64 d, .int .i64 t] 33)).cell? ⟨w.heap.size, 1, none⟩ = some (.int .i64 d) := cell_newAt rfl rfl
  have y6 : (w.alloc (.cells #[.int .i64 s, .int .i64 d, .int .i64 t] 33)).cell? ⟨w.heap.size, 2, none⟩ = some (.int .i64 t) := cell_newAt rfl rfl
  have L4 := h.alloc (.cells #[.int .i64 s, .int .i64 d, .int .i64 t] 33)
  have k4 : Keep w (w.alloc (.cells #[.int .i64 s, .int .i64 d, .int .i64 t] 33)) := (Keep.refl w).alloc _
  generalize hz : w.heap.size = W at y4 y5 y6
  clear c0 c1 d0 d1
  go_enter Try.func26, Try.ntmps26
  go_wp2_with fail
  generalize w.alloc (.cells #[.int .i64 s, .int .i64 d, .int .i64 t] 33) = w4 at *
  go_region_held3 (fun w' => Keep w4 w' ∧ w'.cell? ⟨g1, 0, none⟩ = some (.slice a n cap) ∧ w'.cell? ⟨g1, 1, none⟩ = some (.int .i64 A) ∧ w'.cell? ⟨g2, 0, none⟩ = some (.slice a n cap) ∧ w'.cell? ⟨g2, 1, none⟩ = some (.int .i64 B) ∧ w'.cell? ⟨W, 0, none⟩ = some (.int .i64 s) ∧ w'.cell? ⟨W, 1, none⟩ = some (.int .i64 d) ∧ w'.cell? ⟨W, 2, none⟩ = some (.int .i64 t))
    ((go_split_ands; refine (fun hK => ⟨hK, hK.cell y0, hK.cell y1, hK.cell y2, hK.cell y3, hK.cell y4, hK.cell y5, hK.cell y6⟩ : Keep w4 _ → _) ?_; (repeat' (first | with_reducible assumption | with_reducible exact Keep.refl _ | with_reducible refine Keep.drew ?_ | with_reducible refine Keep.drewN ?_ _ | with_reducible refine Keep.alloc ?_ _ | with_reducible refine Keep.trans ?_ hk))))
    ((first
    | (go_at_call 27; go_split_ands; (with_reducible refine (HV1.out _ (L4.keep (by (repeat' (first | with_reducible assumption | with_reducible exact Keep.refl _ | with_reducible refine Keep.drew ?_ | with_reducible refine Keep.drewN ?_ _ | with_reducible refine Keep.alloc ?_ _ | with_reducible refine Keep.trans ?_ hk))))).mono ?_); rintro e w' ⟨rfl, hk⟩; go_split_ands; have hK : Keep w4 w' := Keep.trans (by (repeat' (first | with_reducible assumption | with_reducible exact Keep.refl _ | with_reducible refine Keep.drew ?_ | with_reducible refine Keep.drewN ?_ _ | with_reducible refine Keep.alloc ?_ _ | with_reducible refine Keep.trans ?_ hk))) hk)
    | (go_at_call 27; go_split_ands; (with_reducible refine (HV2.out _ (L4.keep (by (repeat' (first | with_reducible assumption | with_reducible exact Keep.refl _ | with_reducible refine Keep.drew ?_ | with_reducible refine Keep.drewN ?_ _ | with_reducible refine Keep.alloc ?_ _ | with_reducible refine Keep.trans ?_ hk))))).mono ?_); rintro e w' ⟨rfl, hk⟩; go_split_ands; have hK : Keep w4 w' := Keep.trans (by (repeat' (first | with_reducible assumption | with_reducible exact Keep.refl _ | with_reducible refine Keep.drew ?_ | with_reducible refine Keep.drewN ?_ _ | with_reducible refine Keep.alloc ?_ _ | with_reducible refine Keep.trans ?_ hk))) hk)))
  all_goals
    go_wp2
    go_ret
    exact ⟨by rw [HB.out]; rfl, k4.trans (by (repeat' (first | with_reducible assumption | with_reducible exact Keep.refl _ | with_reducible refine Keep.drew ?_ | with_reducible refine Keep.drewN ?_ _ | with_reducible refine Keep.alloc ?_ _ | with_reducible refine Keep.trans ?_ hk)))⟩
end Go.Proofs.Ytamdfdbhkmgflaa
