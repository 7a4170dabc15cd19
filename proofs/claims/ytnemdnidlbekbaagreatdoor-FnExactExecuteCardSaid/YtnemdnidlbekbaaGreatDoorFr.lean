/- What a law's frame hands to its walk: slices of integers, structs of integers, slices of such structs. Nothing here speaks of the program. -/
import Derived.Test.YtnemdnidlbekbaaGreatDoorRows
import Derived.WalkKit
import Derived.ProofKit
import Derived.OpenShut
import Derived.Deep.Slices
import Derived.Deep.Fields
import Derived.ChangeOld
import Derived.ChangeArms
namespace Go.Proofs.YtnemdnidlbekbaaGreatDoor
open Go.RowKit Go.ChangeShapes Go.WideShapes Go.ChangeAt Go.Deep
set_option linter.unusedVariables false

/-- A slice of integers that came in: nil, or a row of 'cap' cells. -/
def IsRow (k : IntKind) (w : World) (a : Option Addr) (len cap : Nat) (zs : List Int) : Prop :=
  (a = none ∧ len = 0 ∧ cap = 0 ∧ zs = []) ∨
  ∃ x, a = some x ∧ len ≤ cap ∧ cap ≤ maxLen ∧ zs.length = cap ∧ (∀ i, i < zs.length → w.cell? (x.add i) = some (.int k (zs.getD i 0))) ∧ ∀ n ∈ zs, (Lit.int k n).wf = true

/-- A slice of structs of 'n' integers that came in: nil, or a row of 'cap' structs: field j of struct i is 'zs i j'. -/
def IsRows (n : Nat) (w : World) (a : Option Addr) (len cap : Nat) (zs : Nat → Nat → Int) : Prop :=
  (a = none ∧ len = 0 ∧ cap = 0) ∨
  ∃ x, a = some x ∧ len ≤ cap ∧ cap ≤ maxLen ∧ ∀ i, i < cap → ∀ j, j < n → w.cell? (x.add (i * n + j)) = some (.int .i64 (zs i j)) ∧ (Lit.int .i64 (zs i j)).wf = true

section
variable {H : Type} {enc : TypeId × Value → H} {P : Program} {w : World} {base : Nat} {spare : Nat → Bool} {held : Bool}

/-- Field j of a struct's cells, as a number. -/
def fieldOf (cs : List Value) (j : Nat) : Int := intOf (cs.getD j undef)

/-- The cells of a struct all of whose fields are of one integer type. -/
theorem ints_of_struct {t T : TypeId} {fs : Array Field} {fuel : Nat} {cs : List Value} {x : DataW H × List MemPlace} (ht : P.underlying t = some (.struct fs)) (hT : P.underlying T = some (.int .i64))
    (hone : oneCellFields P fs = true) (hall : fs.all (fun f => f.type == T) = true) (hC : P.cellsOf t = fs.size) (h : DataW.trod enc P w base spare held fuel t cs = some x) :
    cs.length = fs.size ∧ ∀ j, j < fs.size → cs[j]? = some (.int .i64 (fieldOf cs j)) ∧ (Lit.int .i64 (fieldOf cs j)).wf = true := by
  obtain ⟨xs, n, _, _, hlen, hxs, hf⟩ := DataW.trod_struct ht h
  rw [hC] at hlen
  refine ⟨hlen, fun j hj => ?_⟩
  have hfj : fs[j]? = some (fs[j]'hj) := Array.getElem?_eq_getElem hj
  have hty : (fs[j]'hj).type = T := by simpa using Array.all_eq_true.1 hall j hj
  have hf' := hf j _ hfj
  obtain ⟨ho, hk⟩ := hone_of hone j _ hfj
  rw [ho, hk, List.drop_eq_getElem_cons (by omega), hty, List.getElem?_eq_getElem (by omega)] at hf'
  obtain ⟨m, hm, _, hwf⟩ := DataW.trod_int hT hf'
  have hcj : cs[j]'(by omega) = .int .i64 m := (List.cons.inj hm).1
  have hq : cs[j]? = some (.int .i64 m) := by rw [List.getElem?_eq_getElem (by omega), hcj]
  have hz : fieldOf cs j = m := by simp [fieldOf, List.getD_eq_getElem?_getD, hq, intOf]
  rw [hz]
  exact ⟨hq, hwf⟩

/-- A struct of 'n' integers by value. -/
theorem agg_of_struct {r : Reach} {b0 : Nat} {t T : TypeId} {fs : Array Field} {v : Value} {d : DataW H} {p : List MemPlace} (ht : P.underlying t = some (.struct fs)) (hT : P.underlying T = some (.int .i64))
    (hone : oneCellFields P fs = true) (hall : fs.all (fun f => f.type == T) = true) (hC : P.cellsOf t = fs.size) (hv : Value.okWide P w r b0 t v) (h : DataW.Trod enc P w base spare held t v d p) :
    ∃ z : Nat → Int, v = .agg (((List.range fs.size).map fun j => Value.int .i64 (z j)).toArray) ∧ ∀ j, j < fs.size → (Lit.int .i64 (z j)).wf = true := by
  obtain ⟨cs, rfl, hsz⟩ := okWide_struct ht hv
  obtain ⟨fuel, hf⟩ := h
  obtain ⟨hl, he⟩ := ints_of_struct ht hT hone hall hC (cs := cs.toList) (by simpa [Value.cells] using hf)
  refine ⟨fieldOf cs.toList, ?_, fun j hj => (he j hj).2⟩
  congr 1
  apply Array.ext'
  apply List.ext_getElem?
  intro j
  by_cases hj : j < fs.size
  · rw [(he j hj).1]; simp [hj]
  · rw [List.getElem?_eq_none (by omega), List.getElem?_eq_none (by simp; omega)]

/-- A slice of structs of integers. -/
theorem rows_of_slice {t e T : TypeId} {fs : Array Field} {fuel : Nat} {a : Option Addr} {len cap : Nat} {x : DataW H × List MemPlace} (ht : P.underlying t = some (.slice e)) (he : P.underlying e = some (.struct fs)) (hT : P.underlying T = some (.int .i64))
    (hone : oneCellFields P fs = true) (hall : fs.all (fun f => f.type == T) = true) (hC : P.cellsOf e = fs.size) (hsp : ∀ b, spare b = true) (h : DataW.trod enc P w base spare held fuel t [.slice a len cap] = some x) :
    ∃ zs, IsRows fs.size w a len cap zs := by
  rcases open_slice ht h with ⟨hcs, _⟩ | ⟨x, l, c, m, n, D, Pl, hcs, _, hl, hm, hmm, _, hx⟩
  · simp at hcs
    obtain ⟨rfl, rfl, rfl⟩ := hcs
    exact ⟨fun _ _ => 0, .inl ⟨rfl, rfl, rfl⟩⟩
  · simp at hcs
    obtain ⟨rfl, rfl, rfl⟩ := hcs
    rw [hsp] at hmm
    simp at hmm
    subst hmm
    rw [hC] at hx
    have hex : ∀ i, ∃ cs' : List Value, i < m → ∀ j, j < fs.size → w.cell? (x.add (i * fs.size + j)) = some (.int .i64 (fieldOf cs' j)) ∧ (Lit.int .i64 (fieldOf cs' j)).wf = true := by
      intro i
      by_cases hi : i < m
      · obtain ⟨cs', h1, h2⟩ := hx i hi
        obtain ⟨_, _, hat⟩ := World.cells?_some h1
        obtain ⟨hl', he'⟩ := ints_of_struct he hT hone hall hC h2
        refine ⟨cs', fun _ j hj => ⟨?_, (he' j hj).2⟩⟩
        rw [← Go.Deep.add_add, hat j hj]
        exact (he' j hj).1
      · exact ⟨[], fun h => absurd h hi⟩
    refine ⟨fun i j => fieldOf (Classical.choose (hex i)) j, .inr ⟨x, rfl, hl, hm, fun i hi j hj => Classical.choose_spec (hex i) hi j hj⟩⟩

/-- A slice of integers. -/
theorem row_of_slice {t e : TypeId} {k : IntKind} {fuel : Nat} {a : Option Addr} {len cap : Nat} {x : DataW H × List MemPlace} (ht : P.underlying t = some (.slice e)) (he : P.underlying e = some (.int k)) (hC : P.cellsOf e = 1)
    (hsp : ∀ b, spare b = true) (h : DataW.trod enc P w base spare held fuel t [.slice a len cap] = some x) : ∃ zs, IsRow k w a len cap zs := by
  rcases open_ints ht he hC h with ⟨hcs, _⟩ | ⟨x, l, c, zs, hcs, _, hl, hm, hz, _, hcell, hwz⟩
  · simp at hcs
    obtain ⟨rfl, rfl, rfl⟩ := hcs
    exact ⟨[], .inl ⟨rfl, rfl, rfl, rfl⟩⟩
  · simp at hcs
    obtain ⟨rfl, rfl, rfl⟩ := hcs
    rw [hsp] at hz
    exact ⟨zs, .inr ⟨_, rfl, hl, hm, by simpa using hz, hcell, hwz⟩⟩
end
end Go.Proofs.YtnemdnidlbekbaaGreatDoor
