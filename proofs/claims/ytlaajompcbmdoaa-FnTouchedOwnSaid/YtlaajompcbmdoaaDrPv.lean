/- How products are drawn. -/
import Derived.Test.YtlaajompcbmdoaaDrSs
import Derived.Test.YtlaajompcbmdoaaDrRep
import Derived.Test.YtlaajompcbmdoaaDrArg
namespace Go.Proofs.Ytlaajompcbmdoaa
open Go.RowKit
set_option linter.unusedVariables false

set_option maxRecDepth 100000 in
set_option maxHeartbeats 2000000 in
theorem drawProduct (B p : Nat) (w : World) (hp : p ≤ 4000) (hr : Rd w B p) :
    Calls Try.prog 66 #[.pointer (some ⟨B, 0, none⟩)] w fun e w' => ∃ (s t f n g : Int) (q : Nat), e = .returned (.agg #[.int .i64 s, .int .i64 t, .int .i64 f, .int .i64 n, .int .i64 g]) ∧ (-20000 ≤ f ∧ f ≤ 20000) ∧ (-20000 ≤ n ∧ n ≤ 20000) ∧ q ≤ p + 10 ∧ Rd w' B q ∧ Only B w w' := by
  have hBR := hr.lt
  go_enter Try.func66, Try.ntmps66
  go_wp2_with fail
  refine (drawDays B p _ (by omega) (hr.alloc _)).mono ?_
  rintro e w1 ⟨s, t, f, n, q1, rfl, hf, hn, hq1, hr1, ho1⟩
  go_wp2_with fail
  refine (pick_any B q1 14 _ (by omega) (by omega) hr1).mono ?_
  rintro e w2 ⟨x, rfl, x0, x1, hr2, ho2, _⟩
  go_wp2_with fail
  refine (pick_any B (q1 + 1) 16 _ (by omega) (by omega) hr2).mono ?_
  rintro e w3 ⟨y, rfl, y0, y1, hr3, ho3, _⟩
  have ho := (ho1.trans ho2).trans ho3
  have c0 := newCellO ho hBR 0 _ rfl
  have c1 := newCellO ho hBR 1 _ rfl
  have c2 := newCellO ho hBR 2 _ rfl
  have c3 := newCellO ho hBR 3 _ rfl
  have c4 := newCellO ho hBR 4 _ rfl
  have f0 := newFrozenO ho hBR 0
  have f1 := newFrozenO ho hBR 1
  have f2 := newFrozenO ho hBR 2
  have f3 := newFrozenO ho hBR 3
  have f4 := newFrozenO ho hBR 4
  have hd : Int.tdiv y 15 = y / 15 := Int.tdiv_eq_ediv_of_nonneg y0
  have hd0 : 0 ≤ y / 15 ∧ y / 15 ≤ 1 := by omega
  have hw : IntKind.i64.wrap (y / 15) = y / 15 := IntWalk.i64_in _ ⟨by omega, by omega⟩
  have hfin := ((Only.refl B w).alloc _).trans ho
  generalize y / 15 = z at *
  go_wp2
  refine bodyPost_ret (v := .agg #[.int .i64 s, .int .i64 t, .int .i64 f, .int .i64 n, .int .i64 (x - z)]) (by simp [results, Try.results66, go_sem, *]) rfl ⟨_, _, _, _, _, q1 + 2, rfl, hf, hn, by omega, ?_, ?_⟩
  · exact (Rd.setCell (Rd.setCell (Rd.setCell (Rd.setCell (Rd.setCell hr3 (by omega) _) (by omega) _) (by omega) _) (by omega) _) (by omega) _)
  · exact (Only.setCell (Only.setCell (Only.setCell (Only.setCell (Only.setCell hfin (by omega) _) (by omega) _) (by omega) _) (by omega) _) (by omega) _)
set_option maxHeartbeats 1000000 in
theorem drawProductValid (a : Option Addr) (len cap : Nat) (w : World) (ha : CodeArg w a len cap) :
    Calls Try.prog 44 #[.slice a len cap] w fun e w' => ∃ (s t f n g : Int), e = .returned (.agg #[.int .i64 s, .int .i64 t, .int .i64 f, .int .i64 n, .int .i64 g]) ∧ (-20000 ≤ f ∧ f ≤ 20000) ∧ (-20000 ≤ n ∧ n ≤ 20000) ∧ Keep w w' := by
  have ha1 := fun o => ha.below ((Below.refl w.heap.size w).alloc (Nat.le_refl _) o)
  go_enter Try.func44, Try.ntmps44
  go_wp2_with fail
  refine (open_any a len cap _ (ha1 _)).mono ?_
  rintro e w1 ⟨rfl, hr0, hb0, hs0⟩
  have hr : Rd w1 (w.heap.size + 1) 0 := by simpa using hr0
  have hs : w.heap.size + 1 < w1.heap.size := by simpa using hs0
  have hb : Below (w.heap.size + 1) _ w1 := hb0.mono (by simp)
  clear hr0 hs0 hb0
  go_wp2_with fail
  refine (drawProduct _ 0 _ (by omega) hr).mono ?_
  rintro e w2 ⟨s, t, f, n, g, q, rfl, hf, hn, _, hr2, ho⟩
  have hb2 := hb.trans (ho.below (Nat.le_refl _) (by omega))
  have c0 := newCell hb2 (by simp) 0 _ rfl
  have c1 := newCell hb2 (by simp) 1 _ rfl
  have c2 := newCell hb2 (by simp) 2 _ rfl
  have c3 := newCell hb2 (by simp) 3 _ rfl
  have c4 := newCell hb2 (by simp) 4 _ rfl
  have f0 := newFrozen hb2 (by simp) 0
  have f1 := newFrozen hb2 (by simp) 1
  have f2 := newFrozen hb2 (by simp) 2
  have f3 := newFrozen hb2 (by simp) 3
  have f4 := newFrozen hb2 (by simp) 4
  clear hb hr hr2 ho hs
  go_wp2
  refine bodyPost_ret (v := .agg #[.int .i64 s, .int .i64 t, .int .i64 f, .int .i64 n, .int .i64 g]) (by simp [results, Try.results44, go_sem, *]) rfl ⟨_, _, _, _, _, rfl, hf, hn, ?_⟩
  have hfin := ((Below.refl w.heap.size w).alloc (Nat.le_refl _) _).trans (hb2.mono (by simp))
  exact ((((hfin.setCell (Nat.le_refl _) _).setCell (Nat.le_refl _) _).setCell (Nat.le_refl _) _).setCell (Nat.le_refl _) _).setCell (Nat.le_refl _) _
set_option maxRecDepth 100000 in
set_option maxHeartbeats 2000000 in
theorem drawProductValue (a : Option Addr) (len cap : Nat) (w : World) (ha : CodeArg w a len cap) :
    Calls Try.prog 36 #[.slice a len cap] w fun e w' => ∃ (gg c : Nat) (rs : List R4) (v s t f n g : Int), e = .returned (.tuple #[.slice (some ⟨gg, 0, none⟩) rs.length c, .int .i64 v, .agg #[.int .i64 s, .int .i64 t, .int .i64 f, .int .i64 n, .int .i64 g]]) ∧
      rs.length ≤ 40 ∧ rs.length ≤ c ∧ FrR w w' (some ⟨gg, 0, none⟩) rs ∧ Keep w w' := by
  have ha1 := fun o => ha.below ((Below.refl w.heap.size w).alloc (Nat.le_refl _) o)
  go_enter Try.func36, Try.ntmps36
  go_wp2_with fail
  refine (open_any a len cap _ (ha1 _)).mono ?_
  rintro e w1 ⟨rfl, hr0, hb0, hs0⟩
  have hr : Rd w1 (w.heap.size + 1) 0 := by simpa using hr0
  have hs : w.heap.size + 1 < w1.heap.size := by simpa using hs0
  have hb : Below (w.heap.size + 1) _ w1 := hb0.mono (by simp)
  clear hr0 hs0 hb0
  go_wp2_with fail
  refine (drawStore _ 0 _ (by omega) hr).mono ?_
  rintro e w2 ⟨gg, c, rs, q, rfl, hl, hcl, hF, hq, hr2, ho2⟩
  go_wp2_with fail
  refine (drawVersion _ q rs.length _ (by omega) hl hr2).mono ?_
  rintro e w3 ⟨v, q3, rfl, hn0, hn1, hq3, hr3, ho3⟩
  go_wp2_with fail
  refine (drawProduct _ q3 _ (by omega) hr3).mono ?_
  rintro e w4 ⟨s, t, f, n, g, q4, rfl, hf, hn, hq4, hr4, ho4⟩
  have ho := (ho2.trans ho3).trans ho4
  have hF4 := Lib.hid ((hF.only ho3 hs).only ho4 hs)
  have hb2 := hb.trans (ho.below (Nat.le_refl _) (by omega))
  have h12 : w.heap.size < w1.heap.size := by omega
  have c0 := newCell hb2 (by simp) 0 _ rfl
  have c1 := newCell hb2 (by simp) 1 _ rfl
  have c2 := newCell hb2 (by simp) 2 _ rfl
  have c3 := newCell hb2 (by simp) 3 _ rfl
  have c4 := newCell hb2 (by simp) 4 _ rfl
  have f0 := newFrozen hb2 (by simp) 0
  have f1 := newFrozen hb2 (by simp) 1
  have f2 := newFrozen hb2 (by simp) 2
  have f3 := newFrozen hb2 (by simp) 3
  have f4 := newFrozen hb2 (by simp) 4
  clear hb hr hr2 hr3 hr4 ho ho2 ho3 ho4 hF hs
  go_wp2
  refine bodyPost_ret (v := .tuple #[.slice (some ⟨gg, 0, none⟩) rs.length c, .int .i64 v, .agg #[.int .i64 s, .int .i64 t, .int .i64 f, .int .i64 n, .int .i64 g]]) (by simp [results, Try.results36, go_sem, *]) rfl ⟨_, _, _, _, _, _, _, _, _, rfl, hl, hcl, ?_, ?_⟩
  · have hO := (((((Only.refl w.heap.size w4).put1 0 (.int .i64 s)).put1 1 (.int .i64 t)).put1 2 (.int .i64 f)).put1 3 (.int .i64 n)).put1 4 (.int .i64 g)
    exact (hF4.out.only hO h12).mono (Nat.le_of_lt h12)
  · have hfin := ((Below.refl w.heap.size w).alloc (Nat.le_refl _) _).trans (hb2.mono (by simp))
    exact ((((hfin.setCell (Nat.le_refl _) _).setCell (Nat.le_refl _) _).setCell (Nat.le_refl _) _).setCell (Nat.le_refl _) _).setCell (Nat.le_refl _) _
end Go.Proofs.Ytlaajompcbmdoaa
