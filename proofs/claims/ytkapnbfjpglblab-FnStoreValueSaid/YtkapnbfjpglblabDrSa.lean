/- How the laws' stores are drawn; two stores held against each other. -/
import Derived.Test.YtkapnbfjpglblabDrSt
import Derived.Deep.QuietTactic
import Derived.BigQuiet
namespace Go.Proofs.Ytkapnbfjpglblab
open Go.RowKit
set_option linter.unusedVariables false

set_option maxRecDepth 100000 in
set_option maxHeartbeats 1000000 in
theorem sR_same (a b : Option Addr) (c d : Nat) (rs : List R4) (w : World) (h1 : Rs w a rs) (h2 : Rs w b rs) (hm : rs.length ≤ 1048576) :
    Calls Try.prog 20 #[.slice a rs.length c, .slice b rs.length d] w fun e w' => e = .returned (.bool true) ∧ Keep w w' := by
  go_enter Try.func20, Try.ntmps20
  go_wp2_with fail
  go_loopw [5] (fun i wr => ∃ k : Nat, k ≤ rs.length ∧ i = .int .i64 k ∧ Keep w wr) (fun i _ => rs.length - (intOf i).toNat)
  case atStart => exact ⟨0, by omega, rfl, Keep.refl w⟩
  case round =>
    obtain ⟨k, hk, rfl, hK⟩ := hrel
    by_cases hlt : k < rs.length
    · obtain ⟨b1, o1, rfl, hb1, ⟨c0, c1, c2, c3⟩⟩ := (h1.keep hK).at_ hlt
      obtain ⟨b2, o2, rfl, hb2, ⟨d0, d1, d2, d3⟩⟩ := (h2.keep hK).at_ hlt
      generalize rS (rs.getD k r0) = x0 at c0 d0
      generalize rD (rs.getD k r0) = x1 at c1 d1
      generalize rK (rs.getD k r0) = x2 at c2 d2
      generalize rV (rs.getD k r0) = x3 at c3 d3
      go_wp2_with fail
      go_quiet (fail)
      go_wp2
      go_roundw
      case rel => exact ⟨k + 1, by omega, by go_num, hK.drewN _⟩
      case measure => simp [intOf]; omega
    · obtain rfl : k = rs.length := by omega
      go_wp2
      go_ret
      exact ⟨rfl, hK⟩
set_option maxRecDepth 100000 in
set_option maxHeartbeats 1000000 in
theorem sI_same (a b : Option Addr) (c d : Nat) (zs : List Int) (w : World) (h1 : Ls w a zs) (h2 : Ls w b zs) (hm : zs.length ≤ 1048576) :
    Calls Try.prog 30 #[.slice a zs.length c, .slice b zs.length d] w fun e w' => e = .returned (.bool true) ∧ Keep w w' := by
  go_enter Try.func30, Try.ntmps30
  go_wp2_with fail
  go_loopw [5] (fun i wr => ∃ k : Nat, k ≤ zs.length ∧ i = .int .i64 k ∧ Keep w wr) (fun i _ => zs.length - (intOf i).toNat)
  case atStart => exact ⟨0, by omega, rfl, Keep.refl w⟩
  case round =>
    obtain ⟨k, hk, rfl, hK⟩ := hrel
    by_cases hlt : k < zs.length
    · obtain ⟨b1, o1, rfl, hb1, c0⟩ := (h1.keep hK).at_ hlt
      obtain ⟨b2, o2, rfl, hb2, d0⟩ := (h2.keep hK).at_ hlt
      generalize zs.getD k 0 = x0 at c0 d0
      go_wp2_with fail
      go_quiet (fail)
      go_wp2
      go_roundw
      case rel => exact ⟨k + 1, by omega, by go_num, hK.drewN _⟩
      case measure => simp [intOf]; omega
    · obtain rfl : k = zs.length := by omega
      go_wp2
      go_ret
      exact ⟨rfl, hK⟩
set_option maxRecDepth 100000 in
set_option maxHeartbeats 1000000 in
theorem drawStoreAdd (a : Option Addr) (len cap : Nat) (w : World) (ha : CodeArg w a len cap) :
    Calls Try.prog 17 #[.slice a len cap] w fun e w' => ∃ (g c : Nat) (rs : List R4) (s d k v : Int), e = .returned (.tuple #[.slice (some ⟨g, 0, none⟩) rs.length c, .agg #[.int .i64 s, .int .i64 d, .int .i64 k, .int .i64 v]]) ∧
      rs.length ≤ 40 ∧ rs.length ≤ c ∧ FrR w w' (some ⟨g, 0, none⟩) rs ∧ (-20000 ≤ d ∧ d ≤ 20000) ∧ Keep w w' := by
  go_enter Try.func17, Try.ntmps17
  go_wp2_with fail
  refine (open_any a len cap _ (ha.below (((Keep.refl w).alloc _)))).mono ?_
  rintro e w1 ⟨rfl, hr1, hb1, hs1⟩
  have k1 : Keep w w1 := ((Keep.refl w).alloc _).trans hb1
  have kb : Keep (w.alloc (.cells #[.int .i64 0, .int .i64 0, .int .i64 0, .int .i64 0] 25)) w1 := hb1
  have hlt1 : w.heap.size < w1.heap.size := Nat.lt_of_lt_of_le (by simp) kb.size
  have hB1 := hr1.lt
  have hBe : (w.alloc (.cells #[.int .i64 0, .int .i64 0, .int .i64 0, .int .i64 0] 25)).heap.size = w.heap.size + 1 := by simp
  have c0 := kb.new 0 (v := .int .i64 0) rfl
  have c1 := kb.new 1 (v := .int .i64 0) rfl
  have c2 := kb.new 2 (v := .int .i64 0) rfl
  have c3 := kb.new 3 (v := .int .i64 0) rfl
  have f0 := kb.fresh 0
  have f1 := kb.fresh 1
  have f2 := kb.fresh 2
  have f3 := kb.fresh 3
  rw [hBe] at hr1 hB1
  clear hb1 kb
  rw [hBe]
  clear hBe
  go_wp2_with fail
  refine (drawStore _ 0 _ (by omega) hr1).mono ?_
  rintro e w2 ⟨g, c, rs, q, rfl, hl, hcl, hF, hq, hr2, ho2⟩
  go_wp2_with fail
  refine (drawReport _ q _ (by omega) hr2).mono ?_
  rintro e w3 ⟨s, d, k, v, q3, rfl, hs, hd, hk, hv, hq3, hr3, ho3⟩
  have ho := ho2.trans ho3
  have k3 : Keep w w3 := Keep.trans' k1 ho (by omega)
  have hF3 := hF.only ho3 hB1
  have d0 := (ho.cell w.heap.size 0 hlt1 (by omega)).trans c0
  have d1 := (ho.cell w.heap.size 1 hlt1 (by omega)).trans c1
  have d2 := (ho.cell w.heap.size 2 hlt1 (by omega)).trans c2
  have d3 := (ho.cell w.heap.size 3 hlt1 (by omega)).trans c3
  have e0 := (ho.frozen w.heap.size 0 hlt1 (by omega)).trans f0
  have e1 := (ho.frozen w.heap.size 1 hlt1 (by omega)).trans f1
  have e2 := (ho.frozen w.heap.size 2 hlt1 (by omega)).trans f2
  have e3 := (ho.frozen w.heap.size 3 hlt1 (by omega)).trans f3
  have HF := Lib.hid (FrR.mono (hF3.only (((((Only.refl w.heap.size w3).put1 0 (.int .i64 s)).put1 1 (.int .i64 d)).put1 2 (.int .i64 k)).put1 3 (.int .i64 v)) hlt1) k1.size)
  have HK := Lib.hid ((((k3.setCell (Nat.le_refl _) (o := 0) (.int .i64 s)).setCell (Nat.le_refl _) (o := 1) (.int .i64 d)).setCell (Nat.le_refl _) (o := 2) (.int .i64 k)).setCell (Nat.le_refl _) (o := 3) (.int .i64 v))
  clear c0 c1 c2 c3 f0 f1 f2 f3 hF hF3
  go_wp2
  refine bodyPost_ret (v := .tuple #[.slice (some ⟨g, 0, none⟩) rs.length c, .agg #[.int .i64 s, .int .i64 d, .int .i64 k, .int .i64 v]]) (by simp [results, Try.results17, go_sem, *]) rfl ⟨g, c, rs, s, d, k, v, rfl, hl, hcl, HF.out, hd, HK.out⟩
theorem drawStoreValid (a : Option Addr) (len cap : Nat) (w : World) (ha : CodeArg w a len cap) :
    Calls Try.prog 35 #[.slice a len cap] w fun e w' => ∃ (g c : Nat) (rs : List R4), e = .returned (.slice (some ⟨g, 0, none⟩) rs.length c) ∧
      rs.length ≤ 40 ∧ rs.length ≤ c ∧ FrR w w' (some ⟨g, 0, none⟩) rs ∧ Keep w w' := by
  go_enter Try.func35, Try.ntmps35
  go_wp2_with fail
  refine (open_any a len cap _ ha).mono ?_
  rintro e w1 ⟨rfl, hr1, hb1, hs1⟩
  have k1 : Keep w w1 := hb1
  go_wp2_with fail
  refine (drawStore _ 0 _ (by omega) hr1).mono ?_
  rintro e w2 ⟨g, c, rs, q, rfl, hl, hcl, hF, hq, hr2, ho2⟩
  go_wp2
  go_ret
  exact ⟨g, c, rs, rfl, hl, hcl, hF.mono k1.size, Keep.trans' k1 ho2 (Nat.le_refl _)⟩
theorem drawStoreChanges (a : Option Addr) (len cap : Nat) (w : World) (ha : CodeArg w a len cap) :
    Calls Try.prog 31 #[.slice a len cap] w fun e w' => ∃ (g c : Nat) (rs : List R4), e = .returned (.slice (some ⟨g, 0, none⟩) rs.length c) ∧
      rs.length ≤ 40 ∧ rs.length ≤ c ∧ FrR w w' (some ⟨g, 0, none⟩) rs ∧ Keep w w' := by
  go_enter Try.func31, Try.ntmps31
  go_wp2_with fail
  refine (open_any a len cap _ ha).mono ?_
  rintro e w1 ⟨rfl, hr1, hb1, hs1⟩
  have k1 : Keep w w1 := hb1
  go_wp2_with fail
  refine (drawStore _ 0 _ (by omega) hr1).mono ?_
  rintro e w2 ⟨g, c, rs, q, rfl, hl, hcl, hF, hq, hr2, ho2⟩
  go_wp2
  go_ret
  exact ⟨g, c, rs, rfl, hl, hcl, hF.mono k1.size, Keep.trans' k1 ho2 (Nat.le_refl _)⟩
end Go.Proofs.Ytkapnbfjpglblab
