/- Gaps: the model's FillOf answers 'gOk', 'gRL'. -/
import Derived.Test.YtkiibklenpncpaaGs
namespace Go.Proofs.Ytkiibklenpncpaa
open Go.RowKit
set_option linter.unusedVariables false

/-- What FillOf answers. -/
def GpPost (zs : List Int) (lo hi st : Int) (w : World) (e : Ending) (w' : World) : Prop :=
  ∃ (a : Option Addr) (c : Nat), e = .returned (.tuple #[.slice a (gRL zs lo hi st).length c, .bool (gOk zs lo hi st)]) ∧ (gRL zs lo hi st).length ≤ c ∧ FrU w w' a (gRL zs lo hi st) ∧ Keep w w'
theorem gp_no {zs : List Int} {lo hi st : Int} {w w' : World} (h : gOk zs lo hi st = false) (a : Option Addr) (c : Nat) (k : Keep w w') : GpPost zs lo hi st w (.returned (.tuple #[.slice a 0 c, .bool false])) w' := by
  have e := gRL_no h
  refine ⟨a, c, ?_, ?_, .inl e, k⟩
  · rw [e, h]; rfl
  · rw [e]; exact Nat.zero_le _
theorem gOk_1 {zs : List Int} {lo hi st : Int} (h : gaB zs lo hi st = false) : gOk zs lo hi st = false := by rw [gOk, h]; rfl
theorem gOk_2 {zs : List Int} {lo hi st : Int} {i : Nat} (hi' : i < zs.length) (h : gH zs hi st i < gL zs lo st i) : gOk zs lo hi st = false := by rw [gOk, gAll_no hi' h, Bool.and_false]
theorem gOk_3 {zs : List Int} {lo hi st : Int} (h : gaB zs lo hi st = true) (h2 : ∀ i, i < zs.length → gL zs lo st i ≤ gH zs hi st i) : gOk zs lo hi st = true := by rw [gOk, h, gAll_yes h2]; rfl
/-- The first k ranges. -/
def gRp (zs : List Int) (lo hi st : Int) (k : Nat) : List R2 := (List.range k).map fun i => (gL zs lo st i, gH zs hi st i)
theorem gRp_len (zs : List Int) (lo hi st : Int) (k : Nat) : (gRp zs lo hi st k).length = k := by simp [gRp]
theorem gRp_succ (zs : List Int) (lo hi st : Int) (k : Nat) : gRp zs lo hi st (k + 1) = gRp zs lo hi st k ++ [(gL zs lo st k, gH zs hi st k)] := by simp [gRp, List.range_succ]
theorem gRp_all (zs : List Int) (lo hi st : Int) : gRp zs lo hi st zs.length = gRl zs lo hi st := rfl
theorem gRl_at {zs : List Int} {lo hi st : Int} {i : Nat} (h : i < zs.length) : (gRl zs lo hi st).getD i u0 = (gL zs lo st i, gH zs hi st i) := by
  simp [gRl, List.getD_eq_getElem?_getD, h]
theorem gp_own {zs : List Int} {lo hi st : Int} {w w' : World} {base n c : Nat} {x : Option Addr} (h : OwnU w' base (.slice x n c) (gRl zs lo hi st)) (hok : gOk zs lo hi st = true) (hn : n = zs.length) (hb : w.heap.size ≤ base) (k : Keep w w') : GpPost zs lo hi st w (.returned (.tuple #[.slice x n c, .bool true])) w' := by
  have e := gRL_yes hok
  subst hn
  obtain ⟨a', c', hv, hc, hR⟩ := h.slice
  injection hv with e1 _ e3
  subst e1
  subst e3
  refine ⟨x, c, ?_, ?_, ?_, k⟩
  · rw [e, hok, gRl_len]
  · rw [e]; exact hc
  · rw [e]
    rcases Nat.eq_zero_or_pos (gRl zs lo hi st).length with h0 | h0
    · exact .inl (List.eq_nil_of_length_eq_zero h0)
    · obtain ⟨g, c2, hv2, _, hg, hl, hW⟩ := h.form h0
      injection hv2 with e1 _ _
      subst e1
      exact .inr ⟨g, rfl, by omega, hl, hW⟩
theorem infoRngG : (Try.prog.info? 66).map (fun i => (i.zero, i.size, i.bytes)) = some (some (.agg #[.int .i64 0, .int .i64 0]), 2, 16) := by kernel_rfl
end Go.Proofs.Ytkiibklenpncpaa
