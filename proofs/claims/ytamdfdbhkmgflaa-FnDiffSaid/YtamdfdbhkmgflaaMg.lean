/- Marks on fresh slices of reports; what lies below them stays. -/
import Derived.Test.YtamdfdbhkmgflaaMf
import Derived.Test.YtamdfdbhkmgflaaSb
namespace Go.Proofs.Ytamdfdbhkmgflaa
open Go.RowKit
set_option linter.unusedVariables false

theorem Rs.below {B : Nat} {w w' : World} {a : Option Addr} {rs : List R4} (h : Rs w a rs) (hl : Lo B a rs.length) (hb : Below B w w') : Rs w' a rs := by
  rcases h with h | ⟨b, off, ha, hlt, hc⟩
  · exact .inl h
  · rcases hl with hl | hl
    · exact .inl (List.eq_nil_of_length_eq_zero hl)
    · exact .inr ⟨b, off, ha, Nat.lt_of_lt_of_le hlt hb.size, fun i hi => (hc i hi).same fun j => hb.cell (p := ⟨b, j, none⟩) (hl b off ha)⟩
theorem Rs.lo {w : World} {a : Option Addr} {rs : List R4} (h : Rs w a rs) : Lo w.heap.size a rs.length := by
  rcases h with h | ⟨b, off, ha, hlt, hc⟩
  · left; rw [h]; rfl
  · right; intro b' o' hb'; rw [ha] at hb'; injection hb' with hb'; injection hb' with hb' _ _; omega
theorem Rs.onlyLo {B : Nat} {w w' : World} {a : Option Addr} {rs : List R4} (h : Rs w a rs) (hl : Lo B a rs.length) (ho : Only B w w') : Rs w' a rs := by
  rcases h with h | ⟨b, off, ha, hlt, hc⟩
  · exact .inl h
  · rcases hl with hl | hl
    · exact .inl (List.eq_nil_of_length_eq_zero hl)
    · have hne : b < B := hl b off ha
      exact .inr ⟨b, off, ha, Nat.lt_of_lt_of_le hlt ho.size, fun i hi => (hc i hi).same fun j => ho.cell b j hlt (by omega)⟩
theorem FrR.mono {w0 w w' : World} {a : Option Addr} {ys : List R4} (h : FrR w w' a ys) (hs : w0.heap.size ≤ w.heap.size) : FrR w0 w' a ys := by
  rcases h with h | ⟨g, ha, hg, hl, h⟩
  · exact .inl h
  · exact .inr ⟨g, ha, Nat.le_trans hs hg, hl, h⟩
theorem FrR.only {B : Nat} {w w' w'' : World} {a : Option Addr} {ys : List R4} (h : FrR w w' a ys) (ho : Only B w' w'') (hB : B < w.heap.size) : FrR w w'' a ys := by
  rcases h with h | ⟨g, ha, hg, hl, h⟩
  · exact .inl h
  · refine .inr ⟨g, ha, hg, Nat.lt_of_lt_of_le hl ho.size, fun j hj => ?_⟩
    obtain ⟨h1, h2⟩ := h j hj
    exact ⟨h1.same fun i => ho.cell g i hl (by omega), ⟨(ho.frozen g _ hl (by omega)).trans h2.f0, (ho.frozen g _ hl (by omega)).trans h2.f1, (ho.frozen g _ hl (by omega)).trans h2.f2, (ho.frozen g _ hl (by omega)).trans h2.f3⟩⟩
theorem FrR.drewN {w w' : World} {a : Option Addr} {ys : List R4} (h : FrR w w' a ys) (n : Nat) : FrR w (w'.drewN n) a ys := h.keep ((Keep.refl w').drewN n)

set_option maxHeartbeats 400000 in
theorem markR0 (a : Option Addr) (c : Nat) (w : World) :
    Calls Try.prog 16 #[.slice a 0 c, .int .i64 1] w fun e w' => e = .returned (.int .i64 1) ∧ w = w' := by
  go_enter Try.func16, Try.ntmps16
  go_wp2_with fail
  go_loop [1, 5] (fun q i => i = .int .i64 0 ∧ q = .int .i64 1) (fun _ i => 0)
  case atStart => exact ⟨rfl, rfl⟩
  case round =>
    obtain ⟨rfl, rfl⟩ := hrel
    go_wp2
    go_ret
    exact ⟨rfl, rfl⟩
/-- Marks on fresh reports. -/
theorem markFR (a : Option Addr) (c : Nat) (rs : List R4) (w0 w : World) (h : FrR w0 w a rs) (hm : rs.length ≤ 1048576) :
    Calls Try.prog 16 #[.slice a rs.length c, .int .i64 1] w fun e w' => e = .returned (.int .i64 (1 + 4 * (rs.length : Int))) ∧ (w0.heap.size ≤ w.heap.size → Below w0.heap.size w w') ∧ ∃ ys, ys.length = rs.length ∧ Rs w' a ys ∧ MkR ys := by
  rcases h with rfl | ⟨g, rfl, hg, hl, h⟩
  · refine (markR0 a c w).mono fun e w' ⟨he, hw⟩ => ?_
    subst hw
    exact ⟨he, fun _ => Below.refl _ _, [], rfl, .inl rfl, fun i hi => by simp at hi⟩
  · refine (markR g c rs w h hm).mono fun e w' ⟨he, ho, ys, hy, hw, hk⟩ => ⟨he, fun hs => ho.below hg hs, ys, hy, hw.rs, hk⟩
end Go.Proofs.Ytamdfdbhkmgflaa
