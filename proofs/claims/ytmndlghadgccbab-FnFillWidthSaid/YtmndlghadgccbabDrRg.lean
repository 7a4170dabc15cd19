/- How ranges and tenths are drawn: the drawn numbers are small; the reader goes on, and nothing else turns. -/
import Derived.Test.YtmndlghadgccbabRd
import Derived.IntWalk
import Derived.Deep.RegionHeld3
import Derived.Deep.DeepCutAuto
namespace Go.Proofs.Ytmndlghadgccbab
open Go.RowKit
set_option linter.unusedVariables false

/-- A drawn number of a range: no greater than 200000, without its sign. -/
def Sm (x : Int) : Prop := -200000 ≤ x ∧ x ≤ 200000

def DrewRg (w : World) (B p k : Nat) (e : Ending) (w' : World) : Prop :=
  ∃ (a b : Int) (q : Nat), e = .returned (.agg #[.int .i64 a, .int .i64 b]) ∧ Sm a ∧ Sm b ∧ q ≤ p + k ∧ Rd w' B q ∧ Only B w w'

set_option maxHeartbeats 4000000 in
theorem drawRg (B p : Nat) (w : World) (hp : p ≤ 900000) (hr : Rd w B p) :
    Calls Try.prog 50 #[.pointer (some ⟨B, 0, none⟩)] w (DrewRg w B p 4) := by
  have hBR := hr.lt
  go_enter Try.func50, Try.ntmps50
  go_wp2_with fail
  refine (pick_any B p 200 _ (by omega) (by omega) (hr.alloc _)).mono ?_
  rintro e w1 ⟨x, rfl, hx0, hx1, hr1, ho1, hs1⟩
  go_wp2_with fail
  refine (pick_any B (p + 1) 120 _ (by omega) (by omega) hr1).mono ?_
  rintro e w2 ⟨y, rfl, hy0, hy1, hr2, ho2, hs2⟩
  have l0 : -1000 ≤ x * 10 - 1000 := by omega
  have l1 : x * 10 - 1000 ≤ 100000 := by omega
  have ho12 := ho1.trans ho2
  have z2 := ho12.size
  simp at z2
  have hq2 : Rd w2 B (p + 2) := hr2
  clear hr1 hr2 ho1 ho2 hs1 hs2
  go_wp2_with fail
  generalize x * 10 - 1000 = lo at l0 l1 ⊢
  refine (pick_any B (p + 2) 20 _ (by omega) (by omega) (hq2.alloc _)).mono ?_
  rintro e w3 ⟨z, rfl, hz0, hz1, hr3, ho3, _⟩
  have z3 := ho3.size
  simp at z3
  have hB2 := hq2.lt
  have s0 := newCellO ho3 hB2 0 _ rfl
  have s1 := newCellO ho3 hB2 1 _ rfl
  have g0 := newFrozenO ho3 hB2 0
  have g1 := newFrozenO ho3 hB2 1
  have ho := (ho12.alloc _).trans ho3
  have r0 := newCellO ho hBR 0 _ rfl
  have r1 := newCellO ho hBR 1 _ rfl
  have f0 := newFrozenO ho hBR 0
  have f1 := newFrozenO ho hBR 1
  have hzz : z = 0 ∨ z = 1 ∨ z = 2 ∨ ((z == 0) = false ∧ (z == 1) = false ∧ (z == 2) = false) := by
    by_cases h : z = 0 <;> by_cases h' : z = 1 <;> by_cases h'' : z = 2 <;> simp [h, h', h'']
  have hfin := ((Only.refl B w).alloc _).trans ho
  rcases hzz with rfl | rfl | rfl | ⟨e0, e1, e2⟩
  · clear hz0 hz1
    go_wp2
    refine bodyPost_ret (v := .agg #[.int .i64 lo, .int .i64 (lo - 1)]) (by simp [results, Try.results50, go_sem, *]) rfl ⟨lo, lo - 1, p + 3, rfl, ⟨by omega, by omega⟩, ⟨by omega, by omega⟩, by omega, ?_, ?_⟩
    · exact ((hr3.setCell (by omega) _).setCell (by omega) _).setCell (by omega) _
    · exact ((hfin.setCell (by omega) _).setCell (by omega) _).setCell (by omega) _
  · clear hz0 hz1
    go_wp2_with fail
    refine (pick_any B (p + 3) 2 _ (by omega) (by omega) (hr3.alloc _)).mono ?_
    rintro e w4 ⟨t, rfl, ht0, ht1, hr4, ho4, _⟩
    have z4 := ho4.size
    simp at z4
    obtain ⟨u, hu, ct⟩ := newCellAny [-99999, -100000] ho4 hr3.lt t ht0 ht1
    have hu1 : -200000 ≤ u := by simp at hu; omega
    have hu2 : u ≤ 200000 := by simp at hu; omega
    clear hu
    have k34 := (ho3.alloc (.cells (([-99999, -100000] : List Int).map (Value.int .i64)).toArray 3)).trans ho4
    have s0 := newCellO k34 hB2 0 _ rfl
    have s1 := newCellO k34 hB2 1 _ rfl
    have g0 := newFrozenO k34 hB2 0
    have g1 := newFrozenO k34 hB2 1
    have k := (ho12.alloc _).trans k34
    have r0 := newCellO k hBR 0 _ rfl
    have r1 := newCellO k hBR 1 _ rfl
    have f0 := newFrozenO k hBR 0
    have f1 := newFrozenO k hBR 1
    have hfin := ((Only.refl B w).alloc _).trans k
    go_wp2
    refine bodyPost_ret (v := .agg #[.int .i64 u, .int .i64 (lo + y)]) (by simp [results, Try.results50, go_sem, *]) rfl ⟨u, lo + y, p + 4, rfl, ⟨by omega, by omega⟩, ⟨by omega, by omega⟩, by omega, ?_, ?_⟩
    · exact ((hr4.setCell (by omega) _).setCell (by omega) _).setCell (by omega) _
    · exact ((hfin.setCell (by omega) _).setCell (by omega) _).setCell (by omega) _
  · clear hz0 hz1
    go_wp2_with fail
    refine (pick_any B (p + 3) 2 _ (by omega) (by omega) (hr3.alloc _)).mono ?_
    rintro e w4 ⟨t, rfl, ht0, ht1, hr4, ho4, _⟩
    have z4 := ho4.size
    simp at z4
    obtain ⟨u, hu, ct⟩ := newCellAny [99999, 100000] ho4 hr3.lt t ht0 ht1
    have hu1 : -200000 ≤ u := by simp at hu; omega
    have hu2 : u ≤ 200000 := by simp at hu; omega
    clear hu
    have k34 := (ho3.alloc (.cells (([99999, 100000] : List Int).map (Value.int .i64)).toArray 3)).trans ho4
    have s0 := newCellO k34 hB2 0 _ rfl
    have s1 := newCellO k34 hB2 1 _ rfl
    have g0 := newFrozenO k34 hB2 0
    have g1 := newFrozenO k34 hB2 1
    have k := (ho12.alloc _).trans k34
    have r0 := newCellO k hBR 0 _ rfl
    have r1 := newCellO k hBR 1 _ rfl
    have f0 := newFrozenO k hBR 0
    have f1 := newFrozenO k hBR 1
    have hfin := ((Only.refl B w).alloc _).trans k
    go_wp2
    refine bodyPost_ret (v := .agg #[.int .i64 lo, .int .i64 u]) (by simp [results, Try.results50, go_sem, *]) rfl ⟨lo, u, p + 4, rfl, ⟨by omega, by omega⟩, ⟨by omega, by omega⟩, by omega, ?_, ?_⟩
    · exact ((hr4.setCell (by omega) _).setCell (by omega) _).setCell (by omega) _
    · exact ((hfin.setCell (by omega) _).setCell (by omega) _).setCell (by omega) _
  · go_wp2
    refine bodyPost_ret (v := .agg #[.int .i64 lo, .int .i64 (lo + y)]) (by simp [results, Try.results50, go_sem, *]) rfl ⟨lo, lo + y, p + 3, rfl, ⟨by omega, by omega⟩, ⟨by omega, by omega⟩, by omega, ?_, ?_⟩
    · exact (hr3.setCell (by omega) _).setCell (by omega) _
    · exact (hfin.setCell (by omega) _).setCell (by omega) _

def DrewRg2 (w : World) (B p k : Nat) (e : Ending) (w' : World) : Prop :=
  ∃ (a b c d : Int) (q : Nat), e = .returned (.tuple #[.agg #[.int .i64 a, .int .i64 b], .agg #[.int .i64 c, .int .i64 d]]) ∧ Sm a ∧ Sm b ∧ (-300000 ≤ c ∧ c ≤ 300000) ∧ (-300000 ≤ d ∧ d ≤ 300000) ∧ q ≤ p + k ∧ Rd w' B q ∧ Only B w w'

end Go.Proofs.Ytmndlghadgccbab
