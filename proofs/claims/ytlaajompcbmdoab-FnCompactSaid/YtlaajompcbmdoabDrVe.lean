/- How keys, and stores with keys or versions, are drawn. -/
import Derived.Test.YtlaajompcbmdoabDrSs
import Derived.Test.YtlaajompcbmdoabVw
import Derived.Test.YtlaajompcbmdoabDrArg
namespace Go.Proofs.Ytlaajompcbmdoab
open Go.RowKit
set_option linter.unusedVariables false

theorem keepOnly {B : Nat} {w w' : World} (k : Keep w w') : Only B w w' := ⟨Below.os k, Below.tape k, Below.output k, Below.size k, fun i hi _ => Below.block k i hi⟩
set_option maxRecDepth 100000 in
set_option maxHeartbeats 4000000 in
theorem drawKey (B p g c : Nat) (rs : List R4) (w0 w : World) (hp : p ≤ 4000) (hr : Rd w B p) (hF : FrR w0 w (some ⟨g, 0, none⟩) rs) (hB0 : B < w0.heap.size) (hl : rs.length ≤ 40) :
    Calls Try.prog 54 #[.pointer (some ⟨B, 0, none⟩), .slice (some ⟨g, 0, none⟩) rs.length c] w fun e w' => ∃ (s d t : Int) (q : Nat), e = .returned (.agg #[.int .i64 s, .int .i64 d, .int .i64 t]) ∧ q ≤ p + 4 ∧ Rd w' B q ∧ Only B w w' := by
  have hBR := hr.lt
  have hFA : FrR w0 (w.alloc (.cells #[.int .i64 0, .int .i64 0, .int .i64 0] 30)) (some ⟨g, 0, none⟩) rs := hF.keep ((Keep.refl w).alloc _)
  have hgB : rs.length = 0 ∨ g ≠ B := by
    rcases hF with h | ⟨g', hg, hg1, _, _⟩
    · left; rw [h]; rfl
    · right; injection hg with hg; injection hg with hg _ _; omega
  by_cases h0 : 0 < (rs.length : Int)
  · go_enter Try.func54, Try.ntmps54
    go_wp2_with fail
    refine (pick_any B p 5 _ (by omega) (by omega) (hr.alloc _)).mono ?_
    rintro e w1 ⟨z, rfl, z0, z1, hr1, ho1, _⟩
    have hF1 := hFA.only ho1 hB0
    by_cases hz : 0 < z
    · go_wp2_with fail
      refine (pick_any B (p + 1) rs.length _ (by omega) (by omega) hr1).mono ?_
      rintro e w2 ⟨y, rfl, y0, y1, hr2, ho2, _⟩
      have hF2 := hF1.only ho2 hB0
      obtain ⟨u, rfl⟩ : ∃ u : Nat, y = (u : Int) := ⟨y.toNat, by omega⟩
      have hu : u < rs.length := by omega
      obtain ⟨b, off, hbo, hb, ⟨c0, c1, c2, c3⟩⟩ := hF2.rs.at_ hu
      injection hbo with hbo
      injection hbo with hg0 hq0 _
      subst hg0
      subst hq0
      generalize rS (rs.getD u r0) = x0 at c0
      generalize rD (rs.getD u r0) = x1 at c1
      generalize rK (rs.getD u r0) = x2 at c2
      generalize rV (rs.getD u r0) = x3 at c3
      rw [Nat.zero_add] at c0 c1 c2 c3
      have ho := ho1.trans ho2
      have e0 := newCellO ho hBR 0 _ rfl
      have e1 := newCellO ho hBR 1 _ rfl
      have e2 := newCellO ho hBR 2 _ rfl
      have g0 := newFrozenO ho hBR 0
      have g1 := newFrozenO ho hBR 1
      have g2 := newFrozenO ho hBR 2
      have hO2 : Only B w w2 := ((Only.refl B w).alloc _).trans ho
      clear hF hFA hF1 hF2 hgB
      go_wp2_with fail
      refine (key_spec x0 x1 x2 x3 _).mono ?_
      rintro e w3 ⟨rfl, k3⟩
      have E0 := k3.cell e0
      have E1 := k3.cell e1
      have E2 := k3.cell e2
      have G0 := k3.still e0 g0
      have G1 := k3.still e1 g1
      have G2 := k3.still e2 g2
      have hr3 : Rd w3 B (p + 1 + 1) := hr2.keepS k3
      have hfin : Only B w w3 := hO2.trans (keepOnly k3)
      clear c0 c1 c2 c3 e0 e1 e2 g0 g1 g2 hr1 hr2
      go_wp2
      refine bodyPost_ret (v := .agg #[.int .i64 x0, .int .i64 x1, .int .i64 x2]) (by simp [results, Try.results54, go_sem, E0, E1, E2]) rfl ⟨_, _, _, p + 1 + 1, rfl, by omega, ?_, ?_⟩
      · exact ((hr3.setCell (by omega) _).setCell (by omega) _).setCell (by omega) _
      · exact ((hfin.setCell (by omega) _).setCell (by omega) _).setCell (by omega) _
    · clear hF1
      go_wp2_with fail
      refine (pick_any B (p + 1) 4 _ (by omega) (by omega) (hr1)).mono ?_
      rintro e w3 ⟨x, rfl, x0, x1, hr3, ho3, _⟩
      go_wp2_with fail
      refine (pick_any B (p + 1 + 1) 8 _ (by omega) (by omega) hr3).mono ?_
      rintro e w4 ⟨y, rfl, y0, y1, hr4, ho4, _⟩
      go_wp2_with fail
      refine (pick_any B (p + 1 + 1 + 1) 4 _ (by omega) (by omega) hr4).mono ?_
      rintro e w5 ⟨v, rfl, v0, v1, hr5, ho5, _⟩
      have ho := ((ho1.trans ho3).trans ho4).trans ho5
      have e0 := newCellO ho hBR 0 _ rfl
      have e1 := newCellO ho hBR 1 _ rfl
      have e2 := newCellO ho hBR 2 _ rfl
      have g0 := newFrozenO ho hBR 0
      have g1 := newFrozenO ho hBR 1
      have g2 := newFrozenO ho hBR 2
      have hfin : Only B w w5 := ((Only.refl B w).alloc _).trans ho
      clear hF hFA hgB
      go_wp2
      refine bodyPost_ret (v := .agg #[.int .i64 x, .int .i64 y, .int .i64 v]) (by simp [results, Try.results54, go_sem, e0, e1, e2]) rfl ⟨_, _, _, p + 1 + 1 + 1 + 1, rfl, by omega, ?_, ?_⟩
      · exact ((hr5.setCell (by omega) _).setCell (by omega) _).setCell (by omega) _
      · exact ((hfin.setCell (by omega) _).setCell (by omega) _).setCell (by omega) _
  · go_enter Try.func54, Try.ntmps54
    go_wp2_with fail
    refine (pick_any B (p) 4 _ (by omega) (by omega) (hr.alloc _)).mono ?_
    rintro e w3 ⟨x, rfl, x0, x1, hr3, ho3, _⟩
    go_wp2_with fail
    refine (pick_any B (p + 1) 8 _ (by omega) (by omega) hr3).mono ?_
    rintro e w4 ⟨y, rfl, y0, y1, hr4, ho4, _⟩
    go_wp2_with fail
    refine (pick_any B (p + 1 + 1) 4 _ (by omega) (by omega) hr4).mono ?_
    rintro e w5 ⟨v, rfl, v0, v1, hr5, ho5, _⟩
    have ho := (ho3.trans ho4).trans ho5
    have e0 := newCellO ho hBR 0 _ rfl
    have e1 := newCellO ho hBR 1 _ rfl
    have e2 := newCellO ho hBR 2 _ rfl
    have g0 := newFrozenO ho hBR 0
    have g1 := newFrozenO ho hBR 1
    have g2 := newFrozenO ho hBR 2
    have hfin : Only B w w5 := ((Only.refl B w).alloc _).trans ho
    clear hF hFA hgB
    go_wp2
    refine bodyPost_ret (v := .agg #[.int .i64 x, .int .i64 y, .int .i64 v]) (by simp [results, Try.results54, go_sem, e0, e1, e2]) rfl ⟨_, _, _, p + 1 + 1 + 1, rfl, by omega, ?_, ?_⟩
    · exact ((hr5.setCell (by omega) _).setCell (by omega) _).setCell (by omega) _
    · exact ((hfin.setCell (by omega) _).setCell (by omega) _).setCell (by omega) _
set_option maxRecDepth 100000 in
set_option maxHeartbeats 2000000 in
theorem drawHistoryOf (a : Option Addr) (len cap : Nat) (w : World) (ha : CodeArg w a len cap) :
    Calls Try.prog 25 #[.slice a len cap] w fun e w' => ∃ (gg c : Nat) (rs : List R4) (s d t : Int), e = .returned (.tuple #[.slice (some ⟨gg, 0, none⟩) rs.length c, .agg #[.int .i64 s, .int .i64 d, .int .i64 t]]) ∧
      rs.length ≤ 40 ∧ rs.length ≤ c ∧ FrR w w' (some ⟨gg, 0, none⟩) rs ∧ Keep w w' := by
  have ha1 := fun o => ha.below ((Below.refl w.heap.size w).alloc (Nat.le_refl _) o)
  go_enter Try.func25, Try.ntmps25
  go_wp2_with fail
  refine (open_any a len cap _ (ha1 _)).mono ?_
  rintro e w1 ⟨rfl, hr0, hb0, hs0⟩
  have hr : Rd w1 (w.heap.size + 1) 0 := by simpa using hr0
  have hs : w.heap.size + 1 < w1.heap.size := by simpa using hs0
  have hb : Below (w.heap.size + 1) _ w1 := hb0.mono (by simp)
  clear hr0 hs0 hb0
  go_wp2_with fail
  refine (drawStore _ 0 _ (by omega) hr).mono ?_
  rintro e w2 ⟨gg, c, rs, q, rfl, hl, hcl, hF, hq, hr2, ho2⟩
  go_wp2_with fail
  refine (drawKey _ q gg c rs w1 _ (by omega) hr2 hF hs hl).mono ?_
  rintro e w4 ⟨s, d, t, q4, rfl, hq4, hr4, ho4⟩
  have ho := ho2.trans ho4
  have hF4 := Lib.hid (hF.only ho4 hs)
  have hb2 := hb.trans (ho.below (Nat.le_refl _) (by omega))
  have h12 : w.heap.size < w1.heap.size := by omega
  have c0 := newCell hb2 (by simp) 0 _ rfl
  have c1 := newCell hb2 (by simp) 1 _ rfl
  have c2 := newCell hb2 (by simp) 2 _ rfl
  have f0 := newFrozen hb2 (by simp) 0
  have f1 := newFrozen hb2 (by simp) 1
  have f2 := newFrozen hb2 (by simp) 2
  clear hb hr hr2 hr4 ho ho2 ho4 hF hs
  go_wp2
  refine bodyPost_ret (v := .tuple #[.slice (some ⟨gg, 0, none⟩) rs.length c, .agg #[.int .i64 s, .int .i64 d, .int .i64 t]]) (by simp [results, Try.results25, go_sem, *]) rfl ⟨_, _, _, _, _, _, rfl, hl, hcl, ?_, ?_⟩
  · have hO := (((Only.refl w.heap.size w4).put1 0 (.int .i64 s)).put1 1 (.int .i64 d)).put1 2 (.int .i64 t)
    exact (hF4.out.only hO h12).mono (Nat.le_of_lt h12)
  · have hfin := ((Below.refl w.heap.size w).alloc (Nat.le_refl _) _).trans (hb2.mono (by simp))
    exact ((hfin.setCell (Nat.le_refl _) _).setCell (Nat.le_refl _) _).setCell (Nat.le_refl _) _
set_option maxRecDepth 100000 in
set_option maxHeartbeats 2000000 in
theorem drawVersionOf (a : Option Addr) (len cap : Nat) (w : World) (ha : CodeArg w a len cap) :
    Calls Try.prog 33 #[.slice a len cap] w fun e w' => ∃ (gg c : Nat) (rs : List R4) (v s d t : Int), e = .returned (.tuple #[.slice (some ⟨gg, 0, none⟩) rs.length c, .int .i64 v, .agg #[.int .i64 s, .int .i64 d, .int .i64 t]]) ∧
      rs.length ≤ 40 ∧ rs.length ≤ c ∧ FrR w w' (some ⟨gg, 0, none⟩) rs ∧ (-50 ≤ v ∧ v ≤ 50) ∧ Keep w w' := by
  have ha1 := fun o => ha.below ((Below.refl w.heap.size w).alloc (Nat.le_refl _) o)
  go_enter Try.func33, Try.ntmps33
  go_wp2_with fail
  refine (open_any a len cap _ (ha1 _)).mono ?_
  rintro e w1 ⟨rfl, hr0, hb0, hs0⟩
  have hr : Rd w1 (w.heap.size + 1) 0 := by simpa using hr0
  have hs : w.heap.size + 1 < w1.heap.size := by simpa using hs0
  have hb : Below (w.heap.size + 1) _ w1 := hb0.mono (by simp)
  clear hr0 hs0 hb0
  go_wp2_with fail
  refine (drawStore _ 0 _ (by omega) hr).mono ?_
  rintro e w2 ⟨gg, c, rs, q, rfl, hl, hcl, hF, hq, hr2, ho2⟩
  go_wp2_with fail
  refine (drawVersion _ q rs.length _ (by omega) hl hr2).mono ?_
  rintro e w3 ⟨v, q3, rfl, hn0, hn1, hq3, hr3, ho3⟩
  have hF3 := hF.only ho3 hs
  go_wp2_with fail
  refine (drawKey _ q3 gg c rs w1 _ (by omega) hr3 hF3 hs hl).mono ?_
  rintro e w4 ⟨s, d, t, q4, rfl, hq4, hr4, ho4⟩
  have ho := (ho2.trans ho3).trans ho4
  have hF4 := Lib.hid (hF3.only ho4 hs)
  have hb2 := hb.trans (ho.below (Nat.le_refl _) (by omega))
  have h12 : w.heap.size < w1.heap.size := by omega
  have c0 := newCell hb2 (by simp) 0 _ rfl
  have c1 := newCell hb2 (by simp) 1 _ rfl
  have c2 := newCell hb2 (by simp) 2 _ rfl
  have f0 := newFrozen hb2 (by simp) 0
  have f1 := newFrozen hb2 (by simp) 1
  have f2 := newFrozen hb2 (by simp) 2
  clear hb hr hr2 hr3 hr4 ho ho2 ho3 ho4 hF hF3 hs
  go_wp2
  refine bodyPost_ret (v := .tuple #[.slice (some ⟨gg, 0, none⟩) rs.length c, .int .i64 v, .agg #[.int .i64 s, .int .i64 d, .int .i64 t]]) (by simp [results, Try.results33, go_sem, *]) rfl ⟨_, _, _, _, _, _, _, rfl, hl, hcl, ?_, ⟨hn0, hn1⟩, ?_⟩
  · have hO := (((Only.refl w.heap.size w4).put1 0 (.int .i64 s)).put1 1 (.int .i64 d)).put1 2 (.int .i64 t)
    exact (hF4.out.only hO h12).mono (Nat.le_of_lt h12)
  · have hfin := ((Below.refl w.heap.size w).alloc (Nat.le_refl _) _).trans (hb2.mono (by simp))
    exact ((hfin.setCell (Nat.le_refl _) _).setCell (Nat.le_refl _) _).setCell (Nat.le_refl _) _
theorem drawCompactOf (a : Option Addr) (len cap : Nat) (w : World) (ha : CodeArg w a len cap) :
    Calls Try.prog 37 #[.slice a len cap] w fun e w' => ∃ (gg c : Nat) (rs : List R4), e = .returned (.slice (some ⟨gg, 0, none⟩) rs.length c) ∧ rs.length ≤ 40 ∧ rs.length ≤ c ∧ FrR w w' (some ⟨gg, 0, none⟩) rs ∧ Keep w w' := by
  go_enter Try.func37, Try.ntmps37
  go_wp2_with fail
  refine (open_any a len cap _ ha).mono ?_
  rintro e w1 ⟨rfl, hr1, hb1, hs1⟩
  have k1 : Keep w w1 := hb1
  go_wp2_with fail
  refine (drawStore _ 0 _ (by omega) hr1).mono ?_
  rintro e w2 ⟨gg, c, rs, q, rfl, hl, hcl, hF, hq, hr2, ho2⟩
  go_wp2
  go_ret
  exact ⟨gg, c, rs, rfl, hl, hcl, hF.mono k1.size, Keep.trans' k1 ho2 (Nat.le_refl _)⟩
end Go.Proofs.Ytlaajompcbmdoab
