/- Series of a store: the program and the model answer 'ssOk', 'ssL'. -/
import Derived.Test.YtnemdnidlbekbaaGreatDoorSy
import Derived.Test.YtnemdnidlbekbaaGreatDoorMk
import Derived.Deep.OwnRows
namespace Go.Proofs.YtnemdnidlbekbaaGreatDoor
open Go.RowKit
set_option linter.unusedVariables false

/-- A series that can be asked for. -/
def saB (s t f n : Int) : Bool := kOk t && inB s 1 9 && inB f 0 999 && inB n 1 12
def ssOk (rs : List R4) (v s t f n : Int) : Bool := vrB rs v && saB s t f n
/-- The values of m days. -/
def serN (rs : List R4) (v : Nat) (s t f : Int) (m : Nat) : List Int := (List.range m).map fun i : Nat => vN rs s (f + (i : Int)) t v
def ssL (rs : List R4) (v s t f n : Int) : List Int := if ssOk rs v s t f n then serN rs v.toNat s t f n.toNat else []
theorem serN_len (rs : List R4) (v : Nat) (s t f : Int) (m : Nat) : (serN rs v s t f m).length = m := by simp [serN]
theorem serN_snoc (rs : List R4) (v : Nat) (s t f : Int) (m : Nat) : serN rs v s t f (m + 1) = serN rs v s t f m ++ [vN rs s (f + (m : Int)) t v] := by
  simp [serN, List.range_succ]
theorem ssL_no {rs : List R4} {v s t f n : Int} (h : ssOk rs v s t f n = false) : ssL rs v s t f n = [] := by simp [ssL, h]
theorem ssL_yes {rs : List R4} {v m : Nat} {s t f : Int} (h : ssOk rs v s t f m = true) : ssL rs v s t f m = serN rs v s t f m := by simp [ssL, h]
theorem saB_facts {s t f n : Int} (h : saB s t f n = true) : kOk t = true ∧ (1 ≤ s ∧ s ≤ 9) ∧ (0 ≤ f ∧ f ≤ 999) ∧ ∃ m : Nat, n = (m : Int) ∧ 1 ≤ m ∧ m ≤ 12 := by
  simp only [saB, inB, Bool.and_eq_true, decide_eq_true_eq] at h
  exact ⟨h.1.1.1, h.1.1.2, h.1.2, n.toNat, by omega, by omega, by omega⟩
/-- A value of a report is within wide limits. -/
theorem rB_bd {r : R4} (h : rB r = true) : -600 ≤ rV r ∧ rV r ≤ 10900 := by
  simp only [rB, rOk, inB, Bool.and_eq_true, decide_eq_true_eq] at h
  have h1 := h.1.1.1
  have h2 := h.2
  have a1 : -600 ≤ kLo (rK r) := by unfold kLo; split <;> (try split) <;> omega
  have a2 : kHi (rK r) ≤ 10900 := by unfold kHi; split <;> (try split) <;> (try split) <;> omega
  omega
theorem vN_bd {rs : List R4} (h : rs.all rB = true) (s d t : Int) : ∀ k, k ≤ rs.length → -9999 ≤ vN rs s d t k ∧ vN rs s d t k ≤ 10900
  | 0, _ => by simp [vN]
  | k + 1, hk => by
    have h1 := rB_bd (rall_at h (show k < rs.length by omega))
    have h2 := vN_bd h s d t k (by omega)
    simp only [vN]; split <;> omega

/-- The slice at a holds the numbers zs, in a block that is new since w. -/
def Fresh (w w' : World) (a : Option Addr) (zs : List Int) : Prop := zs = [] ∨ ∃ g, a = some ⟨g, 0, none⟩ ∧ w.heap.size ≤ g ∧ g < w'.heap.size ∧ Wr w' g zs
theorem Fresh.ls {w w' : World} {a : Option Addr} {zs : List Int} (h : Fresh w w' a zs) : Ls w' a zs := by
  rcases h with h | ⟨g, rfl, _, _, h⟩
  · exact .inl h
  · exact h.ls
theorem Fresh.keep {w w' w'' : World} {a : Option Addr} {zs : List Int} (h : Fresh w w' a zs) (k : Keep w' w'') : Fresh w w'' a zs := by
  rcases h with h | ⟨g, ha, hg, hl, h⟩
  · exact .inl h
  · exact .inr ⟨g, ha, hg, Nat.lt_of_lt_of_le hl k.size, h.keep k⟩
def SsPost (rs : List R4) (v s t f n : Int) (w : World) (e : Ending) (w' : World) : Prop :=
  ∃ (a : Option Addr) (c : Nat), e = .returned (.tuple #[.slice a (ssL rs v s t f n).length c, .bool (ssOk rs v s t f n)]) ∧ Fresh w w' a (ssL rs v s t f n) ∧ Keep w w'
theorem ss_post_no {rs : List R4} {v s t f n : Int} {w w' : World} (h : ssOk rs v s t f n = false) (a : Option Addr) (c : Nat) (k : Keep w w') : SsPost rs v s t f n w (.returned (.tuple #[.slice a 0 c, .bool false])) w' := by
  have e := ssL_no h
  refine ⟨a, c, ?_, .inl e, k⟩
  rw [e, h]; rfl

set_option maxHeartbeats 400000 in
theorem dval_any (d : Int) (w : World) :
    Calls Tryz.prog 146 #[.int .i64 d] w fun e w' => e = .returned (.bool (inB d 0 999)) ∧ w = w' := by
  go_enter Tryz.func146, Tryz.ntmps146
  go_wp2
  all_goals
    go_ret
    refine ⟨retB ?_, rfl⟩
    rw [Bool.eq_iff_iff]; simp [inB]; try omega
set_option maxHeartbeats 1000000 in
theorem sa_impl (s t f n : Int) (w : World) :
    Calls Tryz.prog 135 #[.int .i64 s, .int .i64 t, .int .i64 f, .int .i64 n] w fun e w' => e = .returned (.bool (saB s t f n)) ∧ w = w' := by
  have hk : kOk t = true ∨ kOk t = false := by cases kOk t <;> simp
  have hf : inB f 0 999 = true ∨ inB f 0 999 = false := by cases inB f 0 999 <;> simp
  rcases hk with hk | hk <;> rcases hf with hf | hf
  all_goals
    go_enter Tryz.func135, Tryz.ntmps135
    go_wp2_with (first | (go_at_call 96; refine (kl_impl _ _).mono ?_; rintro e w' ⟨rfl, rfl⟩) | (go_at_call 146; refine (dval_any _ _).mono ?_; rintro e w' ⟨rfl, rfl⟩))
    all_goals
      go_ret
      refine ⟨retB ?_, rfl⟩
      simp only [saB, hk, hf, Bool.false_and, Bool.and_false, Bool.true_and, Bool.and_true]
      first | done | (rw [Bool.eq_iff_iff]; simp [inB]; omega) | (simp [inB]; omega)
end Go.Proofs.YtnemdnidlbekbaaGreatDoor
