/- Marks on numbers from any number on; what DoubtfulOf leaves, as the exact laws want it. -/
import Derived.Test.YtaghgapkjdkkfabDc
import Derived.Test.YtaghgapkjdkkfabDd
import Derived.Test.YtaghgapkjdkkfabMks
import Derived.LoopTactic
namespace Go.Proofs.Ytaghgapkjdkkfab
open Go.RowKit
set_option linter.unusedVariables false

set_option maxHeartbeats 1000000 in
theorem markIs (g c : Nat) (zs : List Int) (s : Int) (hs0 : 0 ≤ s) (hs1 : s ≤ 4194304) (w : World) (h : Wr w g zs) (hm : zs.length ≤ 1048576) :
    Calls Try.prog 40 #[.slice (some ⟨g, 0, none⟩) zs.length c, .int .i64 s] w fun e w' => e = .returned (.int .i64 (s + (zs.length : Int))) ∧ Only g w w' ∧ True := by
  go_enter Try.func40, Try.ntmps40
  go_wp2_with fail
  go_loopw [1, 5] (fun q i wr => ∃ (k : Nat) (ys : List Int), k ≤ zs.length ∧ i = .int .i64 k ∧ q = .int .i64 (s + (k : Int)) ∧ Hid (ys.length = zs.length ∧ Wr wr g ys) ∧ Only g w wr) (fun _ i _ => zs.length - (intOf i).toNat)
  case atStart => exact ⟨0, zs, by omega, rfl, by congr 1; omega, Lib.hid ⟨rfl, h⟩, Only.refl g w⟩
  case round =>
    obtain ⟨k, ys, hk, rfl, rfl, HW, hO⟩ := hrel
    by_cases hlt : k < zs.length
    · obtain ⟨x0, y0⟩ := HW.out.2 k (by have := HW.out.1; omega)
      have HW2 : Hid ((ys.set k (s + (k : Int))).length = zs.length ∧ Wr (wr.setCell ⟨g, k, none⟩ (.int .i64 (s + (k : Int)))) g (ys.set k (s + (k : Int)))) := Lib.hid (by
        obtain ⟨l, W⟩ := HW.out
        exact ⟨by rw [List.length_set]; exact l, W.set (by omega) _⟩)
      have HO := Lib.hid (hO.put1 k (.int .i64 (s + (k : Int))))
      go_wp2
      go_roundw
      case rel => exact ⟨k + 1, ys.set k (s + (k : Int)), by omega, by go_num, by congr 1; omega, HW2, HO.out⟩
      case measure => simp [intOf]; omega
    · obtain rfl : k = zs.length := by omega
      go_wp2
      go_ret
      exact ⟨rfl, hO, trivial⟩
theorem db_implF (a : Option Addr) (cap : Nat) (ts : List R3) (b : Option Addr) (cb : Nat) (vs : List Int) (many most : Int) (w : World) (h : Ss w a ts) (hm : ts.length ≤ 1048576) (hv : Ls w b vs) (hmv : vs.length ≤ 1048576) :
    Calls Try.prog 31 #[.slice a ts.length cap, .slice b vs.length cb, .int .i64 many, .int .i64 most] w (FrPost (dbL ts vs many most) w) := (db_impl a cap ts b cb vs many most w h hm hv hmv).mono fun _ _ h => h.fr
theorem db_specF (a : Option Addr) (cap : Nat) (ts : List R3) (b : Option Addr) (cb : Nat) (vs : List Int) (many most : Int) (w : World) (h : Ss w a ts) (hm : ts.length ≤ 1048576) (hv : Ls w b vs) (hmv : vs.length ≤ 1048576) (hmost : most ≤ 9223372036854775807) :
    Calls Try.prog 32 #[.slice a ts.length cap, .slice b vs.length cb, .int .i64 many, .int .i64 most] w (FrPost (dbL ts vs many most) w) := (db_spec a cap ts b cb vs many most w h hm hv hmv hmost).mono fun _ _ h => h.fr
theorem wf_most {m : Int} (h : (Lit.int .i64 m).wf = true) : m ≤ 9223372036854775807 := by
  simp [Lit.wf, IntKind.min, IntKind.max, IntKind.signed, IntKind.bits] at h
  omega
end Go.Proofs.Ytaghgapkjdkkfab
