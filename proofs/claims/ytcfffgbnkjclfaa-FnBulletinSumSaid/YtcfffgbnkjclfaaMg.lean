/- Marks on fresh slices of reports; what lies below them stays. -/
import Derived.Test.YtcfffgbnkjclfaaMf
import Derived.Test.YtcfffgbnkjclfaaSb
namespace Go.Proofs.Ytcfffgbnkjclfaa
open Go.RowKit
set_option linter.unusedVariables false

theorem Rs.below {B : Nat} {w w' : World} {a : Option Addr} {rs : List R4} (h : Rs w a rs) (hl : Lo B a rs.length) (hb : Below B w w') : Rs w' a rs := by
  rcases h with h | ⟨b, off, ha, hlt, hc⟩
  · exact .inl h
  · rcases hl with hl | hl
    · exact .inl (List.eq_nil_of_length_eq_zero hl)
    · exact .inr ⟨b, off, ha, Nat.lt_of_lt_of_le hlt hb.size, fun i hi => (hc i hi).same fun j => hb.cell (p := ⟨b, j, none⟩) (hl b off ha)⟩
theorem Rs.lo {w : World} {a : Option Addr} {rs : List R4} (h : Rs w a rs) : Lo w.heap.size a rs.length := by
  rcases h with h | ⟨b, off, ha, hlt, hc⟩
  · left; rw [h]; rfl
  · right; intro b' o' hb'; rw [ha] at hb'; injection hb' with hb'; injection hb' with hb' _ _; omega
theorem Rs.onlyLo {B : Nat} {w w' : World} {a : Option Addr} {rs : List R4} (h : Rs w a rs) (hl : Lo B a rs.length) (ho : Only B w w') : Rs w' a rs := by
  rcases h with h | ⟨b, off, ha, hlt, hc⟩
  · exact .inl h
  · rcases hl with hl | hl
    · exact .inl (List.eq_nil_of_length_eq_zero hl)
    · have hne : b < B := hl b off ha
      exact .inr ⟨b, off, ha, Nat.lt_of_lt_of_le hlt ho.size, fun i hi => (hc i hi).same fun j => ho.cell b j hlt (by omega)⟩
theorem FrR.mono {w0 w w' : World} {a : Option Addr} {ys : List R4} (h : FrR w w' a ys) (hs : w0.heap.size ≤ w.heap.size) : FrR w0 w' a ys := by
  rcases h with h | ⟨g, ha, hg, hl, h⟩
  · exact .inl h
  · exact .inr ⟨g, ha, Nat.le_trans hs hg, hl, h⟩
theorem FrR.only {B : Nat} {w w' w'' : World} {a : Option Addr} {ys : List R4} (h : FrR w w' a ys) (ho : Only B w' w'') (hB : B < w.heap.size) : FrR w w'' a ys := by
  rcases h with h | ⟨g, ha, hg, hl, h⟩
  · exact .inl h
  · refine .inr ⟨g, ha, hg, Nat.lt_of_lt_of_le hl ho.size, fun j hj => ?_⟩
    obtain ⟨h1, h2⟩ := h j hj
    exact ⟨h1.same fun i => ho.cell g i hl (by omega), ⟨(ho.frozen g _ hl (by omega)).trans h2.f0, (ho.frozen g _ hl (by omega)).trans h2.f1, (ho.frozen g _ hl (by omega)).trans h2.f2, (ho.frozen g _ hl (by omega)).trans h2.f3⟩⟩
theorem FrR.drewN {w w' : World} {a : Option Addr} {ys : List R4} (h : FrR w w' a ys) (n : Nat) : FrR w (w'.drewN n) a ys := h.keep ((Keep.refl w').drewN n)

end Go.Proofs.Ytcfffgbnkjclfaa
