/- What both sides answer to a text of a series: one list of reports, one word. -/
import Derived.Test.YtpdpcnblpcalaaaDoorBuc
namespace Go.Proofs.YtpdpcnblpcalaaaDoor
open Go.RowKit
set_option linter.unusedVariables false

def BpOne (rs : List R4) (b : Bool) (w : World) (e : Ending) (w' : World) : Prop :=
  ∃ (a : Option Addr) (c : Nat), e = .returned (.tuple #[.slice a rs.length c, .bool b]) ∧ rs.length ≤ c ∧ FrR w w' a rs ∧ Keep w w'
theorem bp_one (p : ByteArray) : ∃ (rs : List R4) (b : Bool), rs.length ≤ 12 ∧ (b = true → ∃ s t f zs, Bt p s t f zs ∧ rs = bvR s t f zs zs.length) ∧ (∀ s t f zs, Bt p s t f zs → b = true ∧ rs = bvR s t f zs zs.length) ∧ (b = false → rs = []) ∧ ∀ w e w', BpPost p w e w' → BpOne rs b w e w' := by
  by_cases h : ∃ s t f zs, Bt p s t f zs
  · obtain ⟨s, t, f, zs, hB⟩ := h
    have hl := (btOk_facts hB.1).2.2.2.1
    have hn := bvR_len s t f zs zs.length
    refine ⟨bvR s t f zs zs.length, true, by omega, fun _ => ⟨s, t, f, zs, hB, rfl⟩, fun s' t' f' us hB' => ?_, fun h => (by cases h), ?_⟩
    · obtain ⟨rfl, rfl, rfl, rfl⟩ := hB.unique hB'
      exact ⟨rfl, rfl⟩
    · rintro w e w' ⟨k, a, c, rs, hc, hF, ⟨s', t', f', us, hB', rfl, rfl⟩ | ⟨hN, _, _⟩⟩
      · obtain ⟨rfl, rfl, rfl, rfl⟩ := hB.unique hB'
        exact ⟨a, c, rfl, hc, hF, k⟩
      · exact absurd hB (hN s t f zs)
  · refine ⟨[], false, by simp, fun h => (by cases h), fun s t f zs hB => absurd ⟨s, t, f, zs, hB⟩ h, fun _ => rfl, ?_⟩
    rintro w e w' ⟨k, a, c, rs, hc, hF, ⟨s', t', f', us, hB', _, _⟩ | ⟨hN, rfl, rfl⟩⟩
    · exact absurd ⟨s', t', f', us, hB'⟩ h
    · exact ⟨a, c, rfl, hc, hF, k⟩
end Go.Proofs.YtpdpcnblpcalaaaDoor
