/- How days and calendars are drawn. -/
import Derived.Test.YtohoeonfoolpdaaDoorDrCb
import Derived.Test.YtohoeonfoolpdaaDoorCt
namespace Go.Proofs.YtohoeonfoolpdaaDoor
open Go.RowKit
set_option linter.unusedVariables false

theorem Rd.keep {w w' : World} {B p : Nat} (h : Rd w B p) (k : Keep w w') : Rd w' B p := by
  obtain ⟨a, len, cap, hl, hB, c0, c1, f1, hc⟩ := h
  exact ⟨a, len, cap, hl, Nat.lt_of_lt_of_le hB k.size, k.cell c0, k.cell c1, k.still c1 f1, hc.keep (fun b o hb => Below.cell k (p := ⟨b, o, none⟩) (Nat.lt_trans hb hB))⟩
theorem Keep.only' {B : Nat} {w w' : World} (h : Keep w w') : Only B w w' := h.only
theorem dOut_bd {y m d c : Int} : -10 ≤ dOut y m d c ∧ dOut y m d c ≤ 1000000 := by
  unfold dOut
  split
  · rename_i h; have := dn_bd h; omega
  · omega

def DrewN (w : World) (e : Ending) (w' : World) : Prop :=
  ∃ n c : Int, e = .returned (.tuple #[.int .i64 n, .int .i64 c]) ∧ (-10 ≤ n ∧ n ≤ 1000000) ∧ (0 ≤ c ∧ c ≤ 3) ∧ Keep w w'
end Go.Proofs.YtohoeonfoolpdaaDoor
