/- Flags of a series: the program, whose checks are closures in a table of its own, and the model answer 'foOk', 'foL'. -/
import Derived.Test.YtpgdbhafdnfhcaaSq
import Derived.Test.YtpgdbhafdnfhcaaRn
import Derived.Test.YtpgdbhafdnfhcaaSe
import Derived.Laws.BitsAllLaws
namespace Go.Proofs.Ytpgdbhafdnfhcaa
open Go.RowKit
set_option linter.unusedVariables false

theorem infoIntF : (Try.prog.info? 3).map (fun i => (i.zero, i.size, i.bytes)) = some (some (.int .i64 0), 1, 8) := by kernel_rfl
theorem own_keep {w w' : World} {base n : Nat} {e : TypeId} {v : Value} {vs : List Value} (h : w.ownsRow base e 1 v n vs) (k : Keep w w') : w'.ownsRow base e 1 v n vs := by
  refine World.ownsRow.kept h (⟨Below.os k, Below.tape k, Below.output k, Below.size k, fun i hi _ => Below.block k i hi⟩ : w.grownBy w' none) ?_
  cases hv : v.ownBlock with
  | none => left; rfl
  | some k => right; simp
/-- What FlagsOf answers. -/
def FoPost (zs : List Int) (lo hi st : Int) (w : World) (e : Ending) (w' : World) : Prop :=
  ∃ (a : Option Addr) (c : Nat), e = .returned (.tuple #[.slice a (foL zs lo hi st).length c, .bool (foOk zs st)]) ∧ Fresh w w' a (foL zs lo hi st) ∧ Keep w w'
theorem fo_post_no {zs : List Int} {lo hi st : Int} {w w' : World} (h : foOk zs st = false) (a : Option Addr) (c : Nat) (k : Keep w w') : FoPost zs lo hi st w (.returned (.tuple #[.slice a 0 c, .bool false])) w' := by
  have e := foL_no (lo := lo) (hi := hi) h
  refine ⟨a, c, ?_, .inl e, k⟩
  rw [e, h]; rfl
theorem limB_cases (lo hi x : Int) : (limB lo hi x = true ∧ decide (x < lo) = true) ∨ (limB lo hi x = true ∧ decide (x < lo) = false ∧ decide (hi < x) = true) ∨ (limB lo hi x = false ∧ decide (x < lo) = false ∧ decide (hi < x) = false) := by
  unfold limB inB
  by_cases h1 : x < lo
  · left; simp [h1]; try omega
  · by_cases h2 : hi < x
    · right; left; simp [h1, h2]
    · right; right; simp [h1, h2]; try omega
/-- The difference of two numbers, without its sign. -/
def dist (x y : Int) : Int := if x < y then y - x else x - y
theorem quietW {P : Program} {f : FuncId} {args : Array Value} {w : World} {n : Nat} {v : Value}
    (h : Calls P f args (w.drewN n) fun e w' => e = .returned v ∧ w.drewN n = w') : Calls P f args (w.drewN n) fun e w'' => e = .returned v ∧ ∃ m, w'' = w.drewN m :=
  h.mono fun _ _ ⟨he, hm⟩ => ⟨he, n, hm.symm⟩
theorem dist_in (x y st : Int) : decide (st < dist y x) = !(inB (x - y) (-st) st) := by
  unfold dist inB
  rw [Bool.eq_iff_iff]
  split <;> simp <;> omega
theorem retBw {a b : Bool} {w w' : World} (h : a = b) (k : Keep w w') : Ending.returned (.bool a) = .returned (.bool b) ∧ Keep w w' := ⟨retB h, k⟩

set_option maxHeartbeats 400000 in
theorem dist_any (x y : Int) (w : World) (x0 : -9999 ≤ x) (x1 : x ≤ 11000) (y0 : -9999 ≤ y) (y1 : y ≤ 11000) :
    Calls Try.prog 88 #[.int .i64 x, .int .i64 y] w fun e w' => e = .returned (.int .i64 (dist x y)) ∧ w = w' := by
  by_cases h : x < y
  · have hd : dist x y = y - x := by rw [dist, if_pos h]
    have H := Lib.hid hd
    clear hd
    go_enter Try.func88, Try.ntmps88
    go_wp2
    all_goals
      go_ret
      exact ⟨retI (by have := H.out; omega), rfl⟩
  · have hd : dist x y = x - y := by rw [dist, if_neg h]
    have H := Lib.hid hd
    clear hd
    go_enter Try.func88, Try.ntmps88
    go_wp2
    all_goals
      go_ret
      exact ⟨retI (by have := H.out; omega), rfl⟩
end Go.Proofs.Ytpgdbhafdnfhcaa
