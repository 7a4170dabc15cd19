/- Slices of integers that a call has made and appends to: 'OwI'; what it hands out: 'NwL' (a new slice), 'NwB' (a new slice and a bool). -/
import Derived.Test.YtaggciojccoidaaDoorSe
import Derived.Test.YtaggciojccoidaaDoorMf
namespace Go.Proofs.YtaggciojccoidaaDoor
open Go.RowKit
set_option linter.unusedVariables false

theorem infoIntO : (Tryd.prog.info? 3).map (fun i => (i.zero, i.size, i.bytes)) = some (some (.int .i64 0), 1, 8) := by kernel_rfl
/-- A slice value that owns the integers zs. -/
def OwI (w : World) (base : Nat) (v : Value) (zs : List Int) : Prop := w.ownsRow base 3 1 v zs.length (zs.map (Value.int .i64))
theorem OwI.keep {w w' : World} {base : Nat} {v : Value} {zs : List Int} (h : OwI w base v zs) (k : Keep w w') : OwI w' base v zs := by
  refine World.ownsRow.kept h (⟨Below.os k, Below.tape k, Below.output k, Below.size k, fun i hi _ => Below.block k i hi⟩ : w.grownBy w' none) ?_
  cases hv : v.ownBlock with
  | none => left; rfl
  | some k => right; simp
theorem OwI.nil (w : World) (base : Nat) : OwI w base (.slice none 0 0) [] := World.ownsRow_nil _ _ _ _
theorem OwI.made (w : World) : OwI (w.alloc (.cells #[] 3)) w.heap.size (.slice (some ⟨w.heap.size, 0, none⟩) 0 0) [] :=
  World.ownsRow_made w #[] 0 (Nat.le_refl _) (by unfold maxLen; omega) rfl
theorem OwI.slice {w : World} {base : Nat} {v : Value} {zs : List Int} (h : OwI w base v zs) : ∃ a c, v = .slice a zs.length c ∧ zs.length ≤ c ∧ Ls w a zs := by
  rcases id h.2 with ⟨hv, h0⟩ | ⟨g, cap, cur, hv, _, hc, _⟩
  · exact ⟨none, 0, by rw [hv, h0], by omega, .inl (List.eq_nil_of_length_eq_zero h0)⟩
  · subst hv; exact ⟨_, _, rfl, by omega, (Ls.own h).2⟩
theorem OwI.fresh {w0 w : World} {base n c : Nat} {a : Option Addr} {zs : List Int} (h : OwI w base (.slice a n c) zs) (hb : w0.heap.size ≤ base) : n = zs.length ∧ n ≤ c ∧ Fresh w0 w a zs := by
  obtain ⟨a', c', hv, hc, _⟩ := h.slice
  injection hv with e1 e2 e3
  subst e1
  subst e2
  subst e3
  refine ⟨rfl, hc, ?_⟩
  by_cases h0 : zs = []
  · exact .inl h0
  · have hp : 0 < zs.length := List.length_pos_iff.2 h0
    obtain ⟨g, cap, hv, hg, hlt⟩ := World.ownsRow.form h hp
    injection hv with e1 _ _
    subst e1
    refine .inr ⟨g, rfl, by omega, hlt, fun j hj => ⟨?_, World.ownsRow.frozenAt h j⟩⟩
    rw [World.ownsRow.cellAt h j (by omega)]
    simp [hj, List.getD_eq_getElem?_getD]
/-- A new slice, or none. -/
def NwL (L : List Int) (w : World) (e : Ending) (w' : World) : Prop := ∃ (a : Option Addr) (c : Nat), e = .returned (.slice a L.length c) ∧ L.length ≤ c ∧ Fresh w w' a L ∧ Keep w w'
/-- A new slice, or none, and a bool. -/
def NwB (L : List Int) (b : Bool) (w : World) (e : Ending) (w' : World) : Prop := ∃ (a : Option Addr) (c : Nat), e = .returned (.tuple #[.slice a L.length c, .bool b]) ∧ L.length ≤ c ∧ Fresh w w' a L ∧ Keep w w'
theorem nwl_no {L : List Int} {w w' : World} (h : L = []) (a : Option Addr) (c : Nat) (k : Keep w w') : NwL L w (.returned (.slice a 0 c)) w' := by
  subst h; exact ⟨a, c, rfl, Nat.zero_le _, .inl rfl, k⟩
theorem nwl_own {L : List Int} {w w' : World} {base n c : Nat} {x : Option Addr} (h : OwI w' base (.slice x n c) L) (hb : w.heap.size ≤ base) (k : Keep w w') : NwL L w (.returned (.slice x n c)) w' := by
  obtain ⟨rfl, hc, hF⟩ := h.fresh hb
  exact ⟨x, c, rfl, hc, hF, k⟩
theorem nwb_no {L : List Int} {b : Bool} {w w' : World} (h : L = []) (hb : b = false) (a : Option Addr) (c : Nat) (k : Keep w w') : NwB L b w (.returned (.tuple #[.slice a 0 c, .bool false])) w' := by
  subst h; subst hb; exact ⟨a, c, rfl, Nat.zero_le _, .inl rfl, k⟩
theorem nwb_own {L : List Int} {b : Bool} {w w' : World} {base n c : Nat} {x : Option Addr} (h : OwI w' base (.slice x n c) L) (h2 : b = true) (hb : w.heap.size ≤ base) (k : Keep w w') : NwB L b w (.returned (.tuple #[.slice x n c, .bool true])) w' := by
  subst h2
  obtain ⟨rfl, hc, hF⟩ := h.fresh hb
  exact ⟨x, c, rfl, hc, hF, k⟩
def FrPostO (L : List Int) (w : World) (e : Ending) (w' : World) : Prop := ∃ (a : Option Addr) (c : Nat), e = .returned (.slice a L.length c) ∧ Fresh w w' a L ∧ Keep w w'
theorem NwL.fr {L : List Int} {w w' : World} {e : Ending} (h : NwL L w e w') : FrPostO L w e w' := by
  obtain ⟨a, c, he, _, hF, k⟩ := h
  exact ⟨a, c, he, hF, k⟩
end Go.Proofs.YtaggciojccoidaaDoor
