/- How days and calendars are drawn. -/
import Derived.Test.YthlabofegjfmfaaDoorDrCb
import Derived.Test.YthlabofegjfmfaaDoorCt
namespace Go.Proofs.YthlabofegjfmfaaDoor
open Go.RowKit
set_option linter.unusedVariables false

theorem Rd.keep {w w' : World} {B p : Nat} (h : Rd w B p) (k : Keep w w') : Rd w' B p := by
  obtain ⟨a, len, cap, hl, hB, c0, c1, f1, hc⟩ := h
  exact ⟨a, len, cap, hl, Nat.lt_of_lt_of_le hB k.size, k.cell c0, k.cell c1, k.still c1 f1, hc.keep (fun b o hb => Below.cell k (p := ⟨b, o, none⟩) (Nat.lt_trans hb hB))⟩
theorem Keep.only' {B : Nat} {w w' : World} (h : Keep w w') : Only B w w' := h.only
theorem dOut_bd {y m d c : Int} : -10 ≤ dOut y m d c ∧ dOut y m d c ≤ 1000000 := by
  unfold dOut
  split
  · rename_i h; have := dn_bd h; omega
  · omega

def DrewN (w : World) (e : Ending) (w' : World) : Prop :=
  ∃ n c : Int, e = .returned (.tuple #[.int .i64 n, .int .i64 c]) ∧ (-10 ≤ n ∧ n ≤ 1000000) ∧ (0 ≤ c ∧ c ≤ 3) ∧ Keep w w'
set_option maxHeartbeats 2000000 in
theorem drawDateOf (a0 : Option Addr) (len cap : Nat) (w : World) (ha : CodeArg w a0 len cap) :
    Calls Tryd.prog 20 #[.slice a0 len cap] w (DrewN w) := by
  go_enter Tryd.func20, Tryd.ntmps20
  go_wp2_with fail
  refine (open_any a0 len cap _ ha).mono ?_
  rintro e w1 ⟨rfl, hr, hb, hs⟩
  go_wp2_with fail
  refine (drawCal _ 0 _ (by omega) hr).mono ?_
  rintro e w2 ⟨c, q2, rfl, hc1, hc2, hq2, hr2, ho2⟩
  go_wp2_with fail
  refine (drawDate _ q2 _ (by omega) hr2).mono ?_
  rintro e w3 ⟨y, m, d, q3, rfl, hy, hm, hd, hq3, hr3, ho3⟩
  go_wp2_with fail
  refine (dayof_spec y m d 1 _).mono ?_
  rintro e w4 ⟨rfl, k4⟩
  have hb1 : Keep w w1 := hb
  have z2 := ho2.size
  have z3 := ho3.size
  have hr4 := hr3.keep k4
  have hk4 : Keep w w4 := (Only.keep (ho2.trans ho3) hb1 (Nat.le_refl _)).trans k4
  obtain ⟨n1, n2⟩ := dOut_bd (y := y) (m := m) (d := d) (c := 1)
  generalize dOut y m d 1 = n at n1 n2 ⊢
  clear hr hr2 hr3 ho2 ho3 k4
  cases hv : dv y m d 1
  case false =>
    go_wp2_with fail
    refine (pick_any _ q3 9 _ (by omega) (by omega) (hr4.alloc _)).mono ?_
    rintro e w6 ⟨t, rfl, ht0, ht1, hr6, ho6, _⟩
    obtain ⟨u, hu, ct⟩ := newCellAny [-3, -2, -1, 0, 803532, 803533, 803547, 803548, 803549] ho6 hr4.lt t ht0 ht1
    have hu1 : -10 ≤ u := by simp at hu; omega
    have hu2 : u ≤ 1000000 := by simp at hu; omega
    clear hu
    go_wp2
    go_ret2
    exact ⟨u, c, rfl, ⟨hu1, hu2⟩, ⟨hc1, hc2⟩, Only.keep ho6 (hk4.alloc _) (Nat.le_refl _)⟩
  case true =>
    go_wp2_with fail
    refine (pick_any _ q3 12 _ (by omega) (by omega) hr4).mono ?_
    rintro e w5 ⟨x, rfl, hx0, hx1, hr5, ho5, _⟩
    have hk5 : Keep w w5 := Only.keep ho5 hk4 (Nat.le_refl _)
    by_cases hx : x = 0
    · subst hx
      go_wp2_with fail
      refine (pick_any _ (q3 + 1) 9 _ (by omega) (by omega) (hr5.alloc _)).mono ?_
      rintro e w6 ⟨t, rfl, ht0, ht1, hr6, ho6, _⟩
      obtain ⟨u, hu, ct⟩ := newCellAny [-3, -2, -1, 0, 803532, 803533, 803547, 803548, 803549] ho6 hr5.lt t ht0 ht1
      have hu1 : -10 ≤ u := by simp at hu; omega
      have hu2 : u ≤ 1000000 := by simp at hu; omega
      clear hu
      go_wp2
      go_ret2
      exact ⟨u, c, rfl, ⟨hu1, hu2⟩, ⟨hc1, hc2⟩, Only.keep ho6 (hk5.alloc _) (Nat.le_refl _)⟩
    · have hx' : (x == 0) = false := by simp; omega
      clear hx
      go_wp2
      go_ret2
      exact ⟨n, c, rfl, ⟨n1, n2⟩, ⟨hc1, hc2⟩, hk5⟩
end Go.Proofs.YthlabofegjfmfaaDoor
