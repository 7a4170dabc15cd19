/- Marks on sites; what NearestOf leaves, as the exact laws want it. -/
import Derived.Test.YtaghgapkjdkkfabNj
import Derived.Test.YtaghgapkjdkkfabNl
import Derived.Test.YtaghgapkjdkkfabMf
import Derived.LoopTactic
namespace Go.Proofs.Ytaghgapkjdkkfab
open Go.RowKit
set_option linter.unusedVariables false

def mk3 (k : Nat) : R3 := (1 + 3 * (k : Int), 1 + 3 * (k : Int) + 1, 1 + 3 * (k : Int) + 1 + 1)
set_option maxHeartbeats 1000000 in
theorem markS (g c : Nat) (rs : List R3) (w : World) (h : WrS w g rs) (hm : rs.length ≤ 1048576) :
    Calls Try.prog 39 #[.slice (some ⟨g, 0, none⟩) rs.length c, .int .i64 1] w fun e w' => e = .returned (.int .i64 (1 + 3 * (rs.length : Int))) ∧ Only g w w' ∧ True := by
  go_enter Try.func39, Try.ntmps39
  go_wp2_with fail
  go_loopw [1, 5] (fun q i wr => ∃ (k : Nat) (ys : List R3), k ≤ rs.length ∧ i = .int .i64 k ∧ q = .int .i64 (1 + 3 * (k : Int)) ∧ Hid (ys.length = rs.length ∧ WrS wr g ys) ∧ Only g w wr) (fun _ i _ => rs.length - (intOf i).toNat)
  case atStart => exact ⟨0, rs, by omega, rfl, rfl, Lib.hid ⟨rfl, h⟩, Only.refl g w⟩
  case round =>
    obtain ⟨k, ys, hk, rfl, rfl, HW, hO⟩ := hrel
    by_cases hlt : k < rs.length
    · obtain ⟨⟨x0, x1, x2⟩, ⟨y0, y1, y2⟩⟩ := HW.out.2 k (by have := HW.out.1; omega)
      have HW2 : Hid ((ys.set k (mk3 k)).length = rs.length ∧ WrS (put3 wr g (k * 3) (mk3 k)) g (ys.set k (mk3 k))) := Lib.hid (by
        obtain ⟨l, W⟩ := HW.out
        exact ⟨by rw [List.length_set]; exact l, W.set (by omega) _⟩)
      have HO := Lib.hid (((hO.put1 (k * 3) (.int .i64 (tS (mk3 k)))).put1 (k * 3 + 1) (.int .i64 (tX (mk3 k)))).put1 (k * 3 + 2) (.int .i64 (tY (mk3 k))))
      go_wp2
      go_roundw
      case rel => exact ⟨k + 1, ys.set k (mk3 k), by omega, by go_num, by congr 1, HW2, HO.out⟩
      case measure => simp [intOf]; omega
    · obtain rfl : k = rs.length := by omega
      go_wp2
      go_ret
      exact ⟨rfl, hO, trivial⟩
def FrPost (L : List Int) (w : World) (e : Ending) (w' : World) : Prop := ∃ (a : Option Addr) (c : Nat), e = .returned (.slice a L.length c) ∧ Fresh w w' a L ∧ Keep w w'
theorem NPost.fr {L : List Int} {w w' : World} {e : Ending} (h : NPost L w e w') : FrPost L w e w' := by
  obtain ⟨a, c, he, _, hF, k⟩ := h
  exact ⟨a, c, he, hF, k⟩
theorem MadeL.fr {L : List Int} {w w' : World} {e : Ending} (h : MadeL L w e w') : FrPost L w e w' := by
  obtain ⟨g, c, he, hc, hW, hg, hl, k⟩ := h
  exact ⟨some ⟨g, 0, none⟩, c, he, .inr ⟨g, rfl, hg, hl, hW⟩, k⟩
theorem nr_implF (a : Option Addr) (cap : Nat) (ts : List R3) (st many : Int) (w : World) (h : Ss w a ts) (hm : ts.length ≤ 1048576) :
    Calls Try.prog 17 #[.slice a ts.length cap, .int .i64 st, .int .i64 many] w (FrPost (nrL ts st many) w) := (nr_impl a cap ts st many w h hm).mono fun _ _ h => h.fr
theorem nr_specF (a : Option Addr) (cap : Nat) (ts : List R3) (st many : Int) (w : World) (h : Ss w a ts) (hm : ts.length ≤ 1048576) :
    Calls Try.prog 18 #[.slice a ts.length cap, .int .i64 st, .int .i64 many] w (FrPost (nrL ts st many) w) := (nr_spec a cap ts st many w h hm).mono fun _ _ h => h.fr
end Go.Proofs.Ytaghgapkjdkkfab
