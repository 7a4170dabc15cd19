/- The value that a version tells: the program's linked list and the model's loop answer 'vN'. -/
import Derived.Test.YtnemdnidlbekbaaGreatDoorSv
import Derived.Test.YtnemdnidlbekbaaGreatDoorRep
import Derived.Deep.LoopGhost
namespace Go.Proofs.YtnemdnidlbekbaaGreatDoor
open Go.RowKit
set_option linter.unusedVariables false

def rM (s d t : Int) (r : R4) : Bool := decide (rS r = s) && decide (rD r = d) && decide (rK r = t)
/-- The value of the last of the first n reports of a key. -/
def vN (rs : List R4) (s d t : Int) : Nat → Int
  | 0 => -9999
  | n + 1 => if rM s d t (rs.getD n r0) then rV (rs.getD n r0) else vN rs s d t n

/-- The linked list of the first n reports. -/
def Chain (w : World) (rs : List R4) : Nat → Option Addr → Prop
  | 0, p => p = none
  | n + 1, p => ∃ (g : Nat) (q : Option Addr), p = some ⟨g, 0, none⟩ ∧ At4 w g 0 (rs.getD n r0) ∧ w.cell? ⟨g, 4, none⟩ = some (.pointer q) ∧ Chain w rs n q
theorem Chain.keep {w w' : World} {rs : List R4} (k : Keep w w') : ∀ {n : Nat} {p : Option Addr}, Chain w rs n p → Chain w' rs n p
  | 0, _, h => h
  | n + 1, _, ⟨g, q, hp, h4, hc, ht⟩ => ⟨g, q, hp, h4.keep k, k.cell hc, Chain.keep k ht⟩

set_option maxHeartbeats 2000000 in
theorem val_any (rs : List R4) (s d t : Int) (n : Nat) (p : Option Addr) (w : World) (h : Chain w rs n p) :
    Calls Tryz.prog 75 #[.pointer p, .int .i64 s, .int .i64 d, .int .i64 t] w fun e w' => e = .returned (.int .i64 (vN rs s d t n)) ∧ w = w' := by
  go_enter Tryz.func75, Tryz.ntmps75
  go_wp2_with fail
  go_loopg [0] n (fun g v wr => ∃ (q : Option Addr), v = .pointer q ∧ Hid (Chain w rs g q) ∧ Hid (vN rs s d t n = vN rs s d t g) ∧ wr = w)
  case atStart => exact ⟨p, rfl, Lib.hid h, Lib.hid rfl, rfl⟩
  case round =>
    obtain ⟨q, rfl, HC, HV, rfl⟩ := hrel
    clear h
    cases gk with
    | zero =>
      obtain rfl : q = none := HC.out
      go_wp2
      go_ret
      exact ⟨retI HV.out.symm, rfl⟩
    | succ m =>
      obtain ⟨g, q', rfl, ⟨c0, c1, c2, c3⟩, c4, ht⟩ := HC.out
      have HT := Lib.hid ht
      have HM : Hid (vN rs s d t (m + 1) = if decide (rS (rs.getD m r0) = s) && decide (rD (rs.getD m r0) = d) && decide (rK (rs.getD m r0) = t) then rV (rs.getD m r0) else vN rs s d t m) := Lib.hid rfl
      clear ht HC
      generalize rS (rs.getD m r0) = x0 at c0 HM
      generalize rD (rs.getD m r0) = x1 at c1 HM
      generalize rK (rs.getD m r0) = x2 at c2 HM
      generalize rV (rs.getD m r0) = x3 at c3 HM
      have hcase : ((x0 == s) = false ∧ ¬ (x0 = s ∧ x1 = d ∧ x2 = t)) ∨ ((x0 == s) = true ∧ (x1 == d) = false ∧ ¬ (x0 = s ∧ x1 = d ∧ x2 = t)) ∨ ((x0 == s) = true ∧ (x1 == d) = true ∧ (x2 == t) = false ∧ ¬ (x0 = s ∧ x1 = d ∧ x2 = t)) ∨ ((x0 == s) = true ∧ (x1 == d) = true ∧ (x2 == t) = true ∧ (x0 = s ∧ x1 = d ∧ x2 = t)) := by
        by_cases h0 : x0 = s <;> by_cases h1 : x1 = d <;> by_cases h2 : x2 = t <;> simp [h0, h1, h2]
      rcases hcase with ⟨e0, hn⟩ | ⟨e0, e1, hn⟩ | ⟨e0, e1, e2, hn⟩ | ⟨e0, e1, e2, hy⟩
      case' inr.inr.inr =>
        have HF : Hid (vN rs s d t n = x3) := Lib.hid (by rw [HV.out, HM.out, if_pos (by simp; exact ⟨⟨hy.1, hy.2.1⟩, hy.2.2⟩)])
        clear hy
        go_wp2
        go_ret
        exact ⟨retI HF.out.symm, rfl⟩
      all_goals
        have HF : Hid (vN rs s d t n = vN rs s d t m) := Lib.hid (by rw [HV.out, HM.out, if_neg (by simpa using hn)])
        clear hn
        go_wp2
        go_roundg m
        case measure => omega
        case rel => exact ⟨q', rfl, HT, HF, rfl⟩
set_option maxHeartbeats 1000000 in
theorem link_any (a : Option Addr) (cap : Nat) (rs : List R4) (w : World) (h : Rs w a rs) (hm : rs.length ≤ 4611686018427387904) :
    Calls Tryz.prog 136 #[.slice a rs.length cap] w fun e w' => ∃ p, e = .returned (.pointer p) ∧ Chain w' rs rs.length p ∧ Keep w w' := by
  go_enter Tryz.func136, Tryz.ntmps136
  go_wp2_with fail
  go_loopw [3, 8] (fun v i wr => ∃ (k : Nat) (p : Option Addr), k ≤ rs.length ∧ i = .int .i64 k ∧ v = .pointer p ∧ Hid (Chain wr rs k p) ∧ Keep w wr) (fun _ i _ => rs.length - (intOf i).toNat)
  case atStart => exact ⟨0, none, by omega, rfl, rfl, Lib.hid rfl, Keep.refl w⟩
  case round =>
    obtain ⟨k, p, hk, rfl, rfl, HC, hK⟩ := hrel
    by_cases hlt : k < rs.length
    · obtain ⟨b, off, rfl, hb, hc⟩ := (h.keep hK).at_ hlt
      obtain ⟨c0, c1, c2, c3⟩ := hc
      go_wp2
      go_roundw
      case rel =>
        refine ⟨k + 1, some ⟨wr.heap.size + 1, 0, none⟩, by omega, by go_num, rfl, Lib.hid ⟨wr.heap.size + 1, p, rfl, ⟨?_, ?_, ?_, ?_⟩, ?_, Chain.keep (((Keep.refl wr).alloc _).alloc _) HC.out⟩, (hK.alloc _).alloc _⟩
        all_goals go_simp
      case measure => simp [intOf]; omega
    · obtain rfl : k = rs.length := by omega
      go_wp2
      go_ret
      exact ⟨p, rfl, HC.out, hK⟩
end Go.Proofs.YtnemdnidlbekbaaGreatDoor
