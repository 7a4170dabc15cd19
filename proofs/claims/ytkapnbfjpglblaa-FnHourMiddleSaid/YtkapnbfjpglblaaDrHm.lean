/- The laws' own drawing of readings out of their code. -/
import Derived.Test.YtkapnbfjpglblaaDrHl
namespace Go.Proofs.Ytkapnbfjpglblaa
open Go.RowKit
set_option linter.unusedVariables false

/-- Drawn readings. -/
def DrewRd (w : World) (e : Ending) (w' : World) : Prop :=
  ∃ (a : Option Addr) (c : Nat) (zs : List Int), e = .returned (.slice a zs.length c) ∧ zs.length ≤ 25 ∧ Btw (-1000) 11000 zs ∧ Ls w' a zs ∧ Keep w w'

set_option maxHeartbeats 1000000 in
theorem drawHourMean (a0 : Option Addr) (len cap : Nat) (w : World) (ha : CodeArg w a0 len cap) :
    Calls Try.prog 23 #[.slice a0 len cap] w (DrewRd w) := by
  go_enter Try.func23, Try.ntmps23
  go_wp2_with fail
  refine (open_any a0 len cap _ ha).mono ?_
  rintro e w1 ⟨rfl, hr1, hb, hs⟩
  have hb : Keep w w1 := hb
  go_wp2_with fail
  refine (pick_any _ 0 10 _ (by omega) (by omega) hr1).mono ?_
  rintro e w2 ⟨x, rfl, x0, x1, hr2, ho2, hs2⟩
  rcases (show x = 0 ∨ (x == 0) = false by by_cases h : x = 0 <;> simp [h]) with rfl | hx
  · go_wp2_with fail
    refine (pick_any _ 1 6 _ (by omega) (by omega) hr2).mono ?_
    rintro e w3 ⟨y, rfl, y0, y1, hr3, ho3, hs3⟩
    obtain ⟨n, rfl⟩ := Int.eq_ofNat_of_zero_le y0
    go_wp2_with fail
    refine (drawReadings _ 2 n _ (by omega) (by omega) hr3).mono ?_
    rintro e w4 ⟨v, zs, q, rfl, hl, hB, hO, hq, hr4, ho4⟩
    obtain ⟨a, c, rfl, hL⟩ := hO.ls
    have HL := Lib.hid (show zs.length ≤ 25 by omega)
    clear hl
    have hk : Keep w w4 := Only.keep ((ho2.trans ho3).trans ho4) hb (Nat.le_refl _)
    go_wp2
    go_ret
    exact ⟨a, c, zs, rfl, HL.out, hB, hL, hk⟩
  · go_wp2_with fail
    refine (drawReadings _ 1 3 _ (by omega) (by omega) hr2).mono ?_
    rintro e w4 ⟨v, zs, q, rfl, hl, hB, hO, hq, hr4, ho4⟩
    obtain ⟨a, c, rfl, hL⟩ := hO.ls
    have HL := Lib.hid (show zs.length ≤ 25 by omega)
    clear hl
    have hk : Keep w w4 := Only.keep (ho2.trans ho4) hb (Nat.le_refl _)
    go_wp2
    go_ret
    exact ⟨a, c, zs, rfl, HL.out, hB, hL, hk⟩
set_option maxHeartbeats 1000000 in
theorem drawHourMiddle (a0 : Option Addr) (len cap : Nat) (w : World) (ha : CodeArg w a0 len cap) :
    Calls Try.prog 26 #[.slice a0 len cap] w (DrewRd w) := by
  go_enter Try.func26, Try.ntmps26
  go_wp2_with fail
  refine (open_any a0 len cap _ ha).mono ?_
  rintro e w1 ⟨rfl, hr1, hb, hs⟩
  have hb : Keep w w1 := hb
  go_wp2_with fail
  refine (pick_any _ 0 16 _ (by omega) (by omega) hr1).mono ?_
  rintro e w2 ⟨x, rfl, x0, x1, hr2, ho2, hs2⟩
  rcases (show x = 0 ∨ (x == 0) = false by by_cases h : x = 0 <;> simp [h]) with rfl | hx
  · go_wp2_with fail
    refine (pick_any _ 1 3 _ (by omega) (by omega) (hr2.alloc _)).mono ?_
    rintro e w3 ⟨y, rfl, y0, y1, hr3, ho3, hs3⟩
    obtain ⟨u, hu, cu⟩ := newCellAny [0, 24, 25] ho3 hr2.lt y y0 y1
    have u0 : 0 ≤ u := by simp at hu; omega
    have u1 : u ≤ 25 := by simp at hu; omega
    clear hu
    obtain ⟨n, rfl⟩ := Int.eq_ofNat_of_zero_le u0
    go_wp2_with fail
    refine (drawReadings _ 2 n _ (by omega) (by omega) hr3).mono ?_
    rintro e w4 ⟨v, zs, q, rfl, hl, hB, hO, hq, hr4, ho4⟩
    obtain ⟨a, c, rfl, hL⟩ := hO.ls
    have HL := Lib.hid (show zs.length ≤ 25 by omega)
    clear hl
    have hk : Keep w w4 := Only.keep (((ho2.alloc _).trans ho3).trans ho4) hb (Nat.le_refl _)
    go_wp2
    go_ret
    exact ⟨a, c, zs, rfl, HL.out, hB, hL, hk⟩
  · go_wp2_with fail
    refine (pick_any _ 1 8 _ (by omega) (by omega) hr2).mono ?_
    rintro e w3 ⟨y, rfl, y0, y1, hr3, ho3, hs3⟩
    obtain ⟨n, rfl⟩ := Int.eq_ofNat_of_zero_le y0
    have HD := Lib.hid (drawReadings _ 2 (n + 1) _ (by omega) (by omega) hr3)
    have e1 : ((n + 1 : Nat) : Int) = 1 + (n : Int) := by omega
    rw [e1] at HD
    go_wp2_with fail
    refine HD.out.mono ?_
    rintro e w4 ⟨v, zs, q, rfl, hl, hB, hO, hq, hr4, ho4⟩
    obtain ⟨a, c, rfl, hL⟩ := hO.ls
    have HL := Lib.hid (show zs.length ≤ 25 by omega)
    clear hl
    have hk : Keep w w4 := Only.keep ((ho2.trans ho3).trans ho4) hb (Nat.le_refl _)
    go_wp2
    go_ret
    exact ⟨a, c, zs, rfl, HL.out, hB, hL, hk⟩
end Go.Proofs.Ytkapnbfjpglblaa
