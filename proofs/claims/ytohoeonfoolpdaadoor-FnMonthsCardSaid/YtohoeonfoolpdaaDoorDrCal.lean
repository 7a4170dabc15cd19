/- How years, calendars and dates are drawn: the drawn numbers are small; the reader goes on, and nothing else turns. -/
import Derived.Test.YtohoeonfoolpdaaDoorRd
import Derived.Test.YtohoeonfoolpdaaDoorKeep
import Derived.Test.YtohoeonfoolpdaaDoorCal
import Derived.IntWalk
import Derived.Lib.Hide
import Derived.Outline
namespace Go.Proofs.YtohoeonfoolpdaaDoor
open Go.RowKit
set_option linter.unusedVariables false

/-- A drawn number of the calendar. -/
def DrewI (lo hi : Int) (w : World) (B p k : Nat) (e : Ending) (w' : World) : Prop :=
  ∃ (t : Int) (q : Nat), e = .returned (.int .i64 t) ∧ lo ≤ t ∧ t ≤ hi ∧ q ≤ p + k ∧ Rd w' B q ∧ Only B w w'

set_option maxHeartbeats 1000000 in
theorem drawCal (B p : Nat) (w : World) (hp : p ≤ 900000) (hr : Rd w B p) :
    Calls Tryd.prog 25 #[.pointer (some ⟨B, 0, none⟩)] w (DrewI 0 3 w B p 2) := by
  go_enter Tryd.func25, Tryd.ntmps25
  go_wp2_with fail
  refine (pick_any B p 20 _ (by omega) (by omega) hr).mono ?_
  rintro e w1 ⟨x, rfl, hx0, hx1, hr1, ho1, hs1⟩
  by_cases hx : x = 0
  · subst hx
    go_wp2_with fail
    refine (pick_any B (p + 1) 2 _ (by omega) (by omega) hr1).mono ?_
    rintro e w2 ⟨t, rfl, ht0, ht1, hr2, ho2, hs2⟩
    go_wp2
    go_ret
    exact ⟨_, _, rfl, by omega, by omega, by omega, hr2, ho1.trans ho2⟩
  · have hx' : (x == 0) = false := by simp; omega
    clear hx
    go_wp2_with fail
    refine (pick_any B (p + 1) 2 _ (by omega) (by omega) hr1).mono ?_
    rintro e w2 ⟨t, rfl, ht0, ht1, hr2, ho2, hs2⟩
    go_wp2
    go_ret
    exact ⟨_, _, rfl, by omega, by omega, by omega, hr2, ho1.trans ho2⟩
set_option maxHeartbeats 1000000 in
theorem drawYear (B p : Nat) (w : World) (hp : p ≤ 900000) (hr : Rd w B p) :
    Calls Tryd.prog 27 #[.pointer (some ⟨B, 0, none⟩)] w (DrewI 0 2300 w B p 3) := by
  go_enter Tryd.func27, Tryd.ntmps27
  go_wp2_with fail
  refine (pick_any B p 4 _ (by omega) (by omega) hr).mono ?_
  rintro e w1 ⟨x, rfl, hx0, hx1, hr1, ho1, hs1⟩
  have hxx : x = 0 ∨ x = 1 ∨ ((x == 0) = false ∧ (x == 1) = false) := by
    by_cases h : x = 0 <;> by_cases h' : x = 1 <;> simp [h, h']
  rcases hxx with rfl | rfl | ⟨e0, e1⟩
  · clear hx0 hx1
    go_wp2_with fail
    refine (pick_any B (p + 1) 15 _ (by omega) (by omega) (hr1.alloc _)).mono ?_
    rintro e w2 ⟨t, rfl, ht0, ht1, hr2, ho2, hs2⟩
    obtain ⟨u, hu, ct⟩ := newCellAny [1, 4, 100, 400, 1500, 1582, 1600, 1700, 1800, 1900, 2000, 2100, 2200, 0, 2201] ho2 hr1.lt t ht0 ht1
    have hu1 : 0 ≤ u := by simp at hu; omega
    have hu2 : u ≤ 2300 := by simp at hu; omega
    clear hu
    go_wp2
    go_ret
    exact ⟨u, _, rfl, hu1, hu2, by omega, hr2, (ho1.alloc _).trans ho2⟩
  · clear hx0 hx1
    go_wp2_with fail
    refine (pick_any B (p + 1) 23 _ (by omega) (by omega) hr1).mono ?_
    rintro e w2 ⟨t, rfl, ht0, ht1, hr2, ho2, hs2⟩
    go_wp2
    go_ret
    exact ⟨_, _, rfl, by omega, by omega, by omega, hr2, ho1.trans ho2⟩
  · go_wp2_with fail
    refine (pick_any B (p + 1) 220 _ (by omega) (by omega) hr1).mono ?_
    rintro e w2 ⟨t, rfl, ht0, ht1, hr2, ho2, hs2⟩
    go_wp2_with fail
    refine (pick_any B (p + 2) 10 _ (by omega) (by omega) hr2).mono ?_
    rintro e w3 ⟨s, rfl, hs0, hs1', hr3, ho3, hs3⟩
    go_wp2
    go_ret
    exact ⟨_, _, rfl, by omega, by omega, by omega, hr3, (ho1.trans ho2).trans ho3⟩
end Go.Proofs.YtohoeonfoolpdaaDoor
