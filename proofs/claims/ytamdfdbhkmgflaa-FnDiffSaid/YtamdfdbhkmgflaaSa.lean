/- A report added to a store: rows of reports of one's own; Clone, Grow and Concat of reports; the program's function. -/
import Derived.Test.YtamdfdbhkmgflaaSe
import Derived.Test.YtamdfdbhkmgflaaRv
import Derived.Lib.AppendZeros
import Derived.WalkSpells
namespace Go.Proofs.Ytamdfdbhkmgflaa
open Go.RowKit
set_option linter.unusedVariables false

/-- What StoreAdd answers. -/
def adB (rs : List R4) (r : R4) : Bool := stB rs && rB r && decide (rs.length < 40)
def adL (rs : List R4) (r : R4) : List R4 := if stB rs && rB r then (if rs.length < 40 then rs ++ [r] else rs) else []
theorem adL_no {rs : List R4} {r : R4} (h : (stB rs && rB r) = false) : adL rs r = [] ∧ adB rs r = false := by simp [adL, adB, h]
theorem adL_full {rs : List R4} {r : R4} (h : (stB rs && rB r) = true) (h2 : rs.length = 40) : adL rs r = rs ∧ adB rs r = false := by simp [adL, adB, h, h2]
theorem adL_yes {rs : List R4} {r : R4} (h : (stB rs && rB r) = true) (h2 : rs.length < 40) : adL rs r = rs ++ [r] ∧ adB rs r = true := by simp [adL, adB, h, h2]
theorem adL_len (rs : List R4) (r : R4) : (adL rs r).length ≤ 40 := by
  unfold adL
  split
  · rename_i h
    simp only [Bool.and_eq_true] at h
    have := (stB_facts h.1).2
    split <;> simp <;> omega
  · simp
/-- Reports in a block that is new since w. -/
def FrR (w w' : World) (a : Option Addr) (ys : List R4) : Prop := ys = [] ∨ ∃ g, a = some ⟨g, 0, none⟩ ∧ w.heap.size ≤ g ∧ g < w'.heap.size ∧ WrR w' g ys
theorem FrR.rs {w w' : World} {a : Option Addr} {ys : List R4} (h : FrR w w' a ys) : Rs w' a ys := by
  rcases h with h | ⟨g, rfl, _, _, h⟩
  · exact .inl h
  · exact h.rs
theorem FrR.keep {w w' w'' : World} {a : Option Addr} {ys : List R4} (h : FrR w w' a ys) (k : Keep w' w'') : FrR w w'' a ys := by
  rcases h with h | ⟨g, ha, hg, hl, h⟩
  · exact .inl h
  · exact .inr ⟨g, ha, hg, Nat.lt_of_lt_of_le hl k.size, h.keep k⟩
def AdPost (rs : List R4) (r : R4) (w : World) (e : Ending) (w' : World) : Prop :=
  ∃ (g c : Nat), e = .returned (.tuple #[.slice (some ⟨g, 0, none⟩) (adL rs r).length c, .bool (adB rs r)]) ∧ (adL rs r).length ≤ c ∧ FrR w w' (some ⟨g, 0, none⟩) (adL rs r) ∧ Keep w w'
/-- The program's answer may be nil. -/
def AdPostN (rs : List R4) (r : R4) (w : World) (e : Ending) (w' : World) : Prop :=
  ∃ (a : Option Addr) (c : Nat), e = .returned (.tuple #[.slice a (adL rs r).length c, .bool (adB rs r)]) ∧ (adL rs r).length ≤ c ∧ FrR w w' a (adL rs r) ∧ Keep w w'

theorem flatR_len : ∀ rs : List R4, (flatR rs).length = rs.length * 4
  | [] => rfl
  | r :: rs => by
    have h := flatR_len rs
    unfold flatR at *
    rw [List.flatMap_cons, List.length_append, h]
    simp [rc]; omega
theorem flatR_app (rs qs : List R4) : flatR (rs ++ qs) = flatR rs ++ flatR qs := by simp [flatR]
theorem flatR_one (r : R4) : flatR [r] = rc r := by simp [flatR]
theorem flatR_at : ∀ (rs : List R4) (i t : Nat), i < rs.length → t < 4 → (flatR rs)[i * 4 + t]? = (rc (rs.getD i r0))[t]?
  | [], _, _, h, _ => by cases h
  | r :: rs, 0, t, _, ht => by
    have e : flatR (r :: rs) = rc r ++ flatR rs := by simp [flatR]
    rw [e, List.getElem?_append_left (by simp [rc]; omega)]
    simp
  | r :: rs, i + 1, t, h, ht => by
    have e : flatR (r :: rs) = rc r ++ flatR rs := by simp [flatR]
    have h1 : i < rs.length := by simpa using h
    rw [e, List.getElem?_append_right (by simp [rc]; omega)]
    have e2 : (i + 1) * 4 + t - (rc r).length = i * 4 + t := by simp [rc]; omega
    rw [e2, flatR_at rs i t h1 ht]
    simp
theorem at4_of {w : World} {b o : Nat} {r : R4} (h : ∀ t, t < 4 → w.cell? ⟨b, o + t, none⟩ = (rc r)[t]?) : At4 w b o r :=
  ⟨(h 0 (by omega)).trans rfl, (h 1 (by omega)).trans rfl, (h 2 (by omega)).trans rfl, (h 3 (by omega)).trans rfl⟩
theorem At4.rc_at {w : World} {b o : Nat} {r : R4} (h : At4 w b o r) (t : Nat) (ht : t < 4) : w.cell? ⟨b, o + t, none⟩ = (rc r)[t]? := by
  have h4 : t = 0 ∨ t = 1 ∨ t = 2 ∨ t = 3 := by omega
  rcases h4 with rfl | rfl | rfl | rfl
  · exact h.s
  · exact h.d
  · exact h.k
  · exact h.v
/-- The cells of a slice of reports, to be appended. -/
theorem news_rs {w : World} {b off : Nat} {rs : List R4} (h : Rs w (some ⟨b, off, none⟩) rs) : ∀ j u, (flatR rs)[j]? = some u → w.cell? ((⟨b, off, none⟩ : Addr).add j) = some u := by
  intro j u hj
  have hl : j < rs.length * 4 := by
    rw [← flatR_len]
    exact (List.getElem?_eq_some_iff.1 hj).1
  rcases h with h | ⟨b', off', he, _, h⟩
  · subst h; simp [flatR] at hj
  · simp only [Option.some.injEq, Addr.mk.injEq, and_true] at he
    obtain ⟨rfl, rfl⟩ := he
    have e : j = j / 4 * 4 + j % 4 := by omega
    rw [e, flatR_at rs _ _ (by omega) (by omega)] at hj
    have h1 := (h (j / 4) (by omega)).rc_at (j % 4) (by omega)
    rw [hj] at h1
    have e2 : (⟨b, off, none⟩ : Addr).add j = ⟨b, off + j, none⟩ := Addr.add_lit b off j
    have e3 : off + j = off + j / 4 * 4 + j % 4 := by omega
    rw [e2, e3]; exact h1
theorem news_one {w : World} {b1 : Nat} {r : R4} (h : At4 w b1 0 r) : ∀ j u, (rc r)[j]? = some u → w.cell? ((⟨b1, 0, none⟩ : Addr).add j) = some u := by
  have hR : Rs w (some ⟨b1, 0, none⟩) [r] := .inr ⟨b1, 0, rfl, World.block_lt_of_cell? w _ h.s, fun i hi => by
    obtain rfl : i = 0 := by simpa using hi
    exact h⟩
  have h2 := news_rs hR
  rw [flatR_one] at h2
  exact h2
theorem rc_one (r : R4) : ∀ u ∈ rc r, u.oneCell' = true := by
  intro u hu
  simp only [rc, List.mem_cons, List.not_mem_nil, or_false] at hu
  obtain rfl | rfl | rfl | rfl := hu <;> rfl
theorem flat_one {rs : List R4} : ∀ u ∈ flatR rs, u.oneCell' = true := by
  intro u hu
  simp only [flatR, List.mem_flatMap, rc, List.mem_cons, List.not_mem_nil, or_false] at hu
  obtain ⟨r, _, rfl | rfl | rfl | rfl⟩ := hu <;> rfl
theorem own_cap {w : World} {base e size g n c : Nat} {xs : List Value} (h : w.ownsRow base e size (.slice (some ⟨g, 0, none⟩) n c) n xs) : n ≤ c := by
  rcases h.2 with ⟨h', _⟩ | ⟨g', cap', cur, h', _, _, h2, _⟩
  · simp at h'
  · simp only [Value.slice.injEq, Option.some.injEq, Addr.mk.injEq, and_true, true_and] at h'
    obtain ⟨rfl, rfl⟩ := h'
    exact h2
/-- What a row of one's own holds may be written. -/
theorem wrR_own {w : World} {base g n c : Nat} {ys : List R4} (h : w.ownsRow base 31 4 (.slice (some ⟨g, 0, none⟩) n c) n (flatR ys)) (hn : n = ys.length) : WrR w g ys := by
  subst hn
  intro j hj
  refine ⟨at4_of fun t ht => ?_, ⟨World.ownsRow.frozenAt h _, World.ownsRow.frozenAt h _, World.ownsRow.frozenAt h _, World.ownsRow.frozenAt h _⟩⟩
  rw [World.ownsRow.cellAt h _ (by omega), flatR_at ys j t hj ht]

end Go.Proofs.Ytamdfdbhkmgflaa
