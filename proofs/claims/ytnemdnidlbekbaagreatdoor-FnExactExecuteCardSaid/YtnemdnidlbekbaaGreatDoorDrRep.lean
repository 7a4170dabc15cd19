/- How a report is drawn: the drawn report's numbers are small; the reader goes on, and nothing else turns. -/
import Derived.Test.YtnemdnidlbekbaaGreatDoorKl
import Derived.Test.YtnemdnidlbekbaaGreatDoorRd
import Derived.Test.YtnemdnidlbekbaaGreatDoorRep
namespace Go.Proofs.YtnemdnidlbekbaaGreatDoor
open Go.RowKit
set_option linter.unusedVariables false

set_option maxHeartbeats 1000000 in
theorem drawValue (B p : Nat) (kind : Int) (w : World) (hp : p ≤ 900000) (hr : Rd w B p) :
    Calls Tryz.prog 44 #[.pointer (some ⟨B, 0, none⟩), .int .i64 kind] w fun e w' => ∃ (v : Int) (q : Nat), e = .returned (.int .i64 v) ∧ -20000 ≤ v ∧ v ≤ 20000 ∧ q ≤ p + 2 ∧ Rd w' B q ∧ Only B w w' := by
  have hk : (kOk kind = false) ∨ kind = 1 ∨ kind = 2 ∨ kind = 3 := by simp [kOk]; omega
  rcases hk with hk | hk
  · go_enter Tryz.func44, Tryz.ntmps44
    go_wp2_with fail
    refine (kl_spec _ _).mono ?_
    rintro e w' ⟨rfl, rfl⟩
    go_wp2_with fail
    refine (pick_any B p 100 _ (by omega) (by omega) hr).mono ?_
    rintro e w1 ⟨z, rfl, h0, h1, hr1, ho, hs⟩
    go_wp2
    go_ret
    exact ⟨_, _, rfl, by omega, by omega, by omega, hr1, ho⟩
  · rcases hk with rfl | rfl | rfl
    all_goals
      go_enter Tryz.func44, Tryz.ntmps44
      go_wp2_with fail
      refine (kl_spec _ _).mono ?_
      rintro e w' ⟨rfl, rfl⟩
      simp only [kLo, kHi, kOk]
      go_wp2_with fail
      refine (pick_any B p 16 _ (by omega) (by omega) hr).mono ?_
      rintro e w1 ⟨z, rfl, h0, h1, hr1, ho, hs⟩
      by_cases hz : z = 0
      · subst hz
        go_wp2_with fail
        refine (pick_any B (p + 1) 4 _ (by omega) (by omega) (hr1.alloc _)).mono ?_
        rintro e w2 ⟨z, rfl, h0, h1, hr2, ho2, hs2⟩
        have c0 := newCellO ho2 hr1.lt 0 _ rfl
        have c1 := newCellO ho2 hr1.lt 1 _ rfl
        have c2 := newCellO ho2 hr1.lt 2 _ rfl
        have c3 := newCellO ho2 hr1.lt 3 _ rfl
        have ho3 : Only B w w2 := (ho.alloc _).trans ho2
        have hz : z = 0 ∨ z = 1 ∨ z = 2 ∨ z = 3 := by omega
        rcases hz with rfl | rfl | rfl | rfl
        all_goals
          go_wp2
          go_ret
          exact ⟨_, _, rfl, by omega, by omega, by omega, hr2, ho3⟩
      · have hz' : (z == 0) = false := by simp; omega
        go_wp2_with fail
        refine (pick_any B (p + 1) 250 _ (by omega) (by omega) hr1).mono ?_
        rintro e w2 ⟨y, rfl, h0, h1, hr2, ho2, hs2⟩
        go_wp2
        go_ret
        exact ⟨_, _, rfl, by omega, by omega, by omega, hr2, ho.trans ho2⟩

set_option maxHeartbeats 4000000 in
theorem drawReport (B p : Nat) (w : World) (hp : p ≤ 800000) (hr : Rd w B p) :
    Calls Tryz.prog 31 #[.pointer (some ⟨B, 0, none⟩)] w fun e w' => ∃ (s d k v : Int) (q : Nat), e = .returned (.agg #[.int .i64 s, .int .i64 d, .int .i64 k, .int .i64 v]) ∧
      (-20000 ≤ s ∧ s ≤ 20000) ∧ (-20000 ≤ d ∧ d ≤ 20000) ∧ (-20000 ≤ k ∧ k ≤ 20000) ∧ (-20000 ≤ v ∧ v ≤ 20000) ∧ q ≤ p + 20 ∧ Rd w' B q ∧ Only B w w' := by
  have hBR := hr.lt
  go_enter Tryz.func31, Tryz.ntmps31
  go_wp2_with fail
  refine (pick_any B p 3 _ (by omega) (by omega) (hr.alloc _)).mono ?_
  rintro e w1 ⟨z1, rfl, h10, h11, hr1, ho1, hs1⟩
  go_wp2_with fail
  refine (pick_any B (p + 1) 24 _ (by omega) (by omega) hr1).mono ?_
  rintro e w2 ⟨z2, rfl, h20, h21, hr2, ho2, hs2⟩
  have hz2 : z2 = 0 ∨ (z2 == 0) = false := by by_cases h : z2 = 0 <;> simp [h]
  rcases hz2 with rfl | hz2
  case' inl =>
    go_wp2_with fail
    refine (pick_any B (p + 2) 2 _ (by omega) (by omega) hr2).mono ?_
    rintro e wk ⟨z3, rfl, h30, h31, hrk0, ho3, hs3⟩
    have hok : Only B _ wk := (ho1.trans ho2).trans ho3
    have hzk := hok.size
    simp at hzk
    have hkd0 : -20000 ≤ z3 * 4 := by omega
    have hkd1 : z3 * 4 ≤ 20000 := by omega
    obtain ⟨q0, hq0, hrk⟩ : ∃ q0, q0 ≤ p + 3 ∧ Rd wk B q0 := ⟨_, Nat.le_refl _, hrk0⟩
    clear hs1 hs2 hs3 hr1 hr2 ho1 ho2 ho3 h10 h11 h20 h21 h30 hrk0
    go_wp2_with fail
    generalize z3 * 4 = kd at hkd0 hkd1 ⊢
  case' inr =>
    obtain ⟨wk, hwk⟩ : ∃ wk, wk = w2 := ⟨_, rfl⟩
    subst hwk
    have hok : Only B _ wk := ho1.trans ho2
    have hzk := hok.size
    simp at hzk
    have hkd0 : -20000 ≤ 1 + z1 := by omega
    have hkd1 : 1 + z1 ≤ 20000 := by omega
    obtain ⟨q0, hq0, hrk⟩ : ∃ q0, q0 ≤ p + 3 ∧ Rd wk B q0 := ⟨_, by omega, hr2⟩
    clear hs1 hs2 hr1 hr2 ho1 ho2 h20 h21
    go_wp2_with fail
    generalize 1 + z1 = kd at hkd0 hkd1 ⊢
  all_goals
    refine (pick_any B q0 4 _ (by omega) (by omega) hrk).mono ?_
    rintro e w4 ⟨s0, rfl, hs0, hs1, hr4, ho4, _⟩
    go_wp2_with fail
    refine (pick_any B (q0 + 1) 12 _ (by omega) (by omega) hr4).mono ?_
    rintro e w5 ⟨d0, rfl, hd0, hd1, hr5, ho5, _⟩
    go_wp2_with fail
    refine (drawValue B (q0 + 2) _ _ (by omega) hr5).mono ?_
    rintro e w6 ⟨v, q6, rfl, hv0, hv1, hq6, hr6, ho6⟩
    have ho46 := (ho4.trans ho5).trans ho6
    have hz46 := ho46.size
    go_wp2_with fail
    refine (pick_any B q6 24 _ (by omega) (by omega) (hr6.alloc _)).mono ?_
    rintro e w7 ⟨y, rfl, hy0, hy1, hr7, ho7, _⟩
    have hz7 := ho7.size
    simp at hz7
    have cS0 := newCellO ho7 hr6.lt 0 _ rfl
    have cS1 := newCellO ho7 hr6.lt 1 _ rfl
    have cS2 := newCellO ho7 hr6.lt 2 _ rfl
    have cS3 := newCellO ho7 hr6.lt 3 _ rfl
    have fS0 := newFrozenO ho7 hr6.lt 0
    have fS1 := newFrozenO ho7 hr6.lt 1
    have ho67 := ((hok.trans ho46).alloc _).trans ho7
    have cR0 := newCellO ho67 hBR 0 _ rfl
    have cR1 := newCellO ho67 hBR 1 _ rfl
    have cR2 := newCellO ho67 hBR 2 _ rfl
    have cR3 := newCellO ho67 hBR 3 _ rfl
    have fR0 := newFrozenO ho67 hBR 0
    have fR1 := newFrozenO ho67 hBR 1
    have fR2 := newFrozenO ho67 hBR 2
    have fR3 := newFrozenO ho67 hBR 3
    have hyy : y = 0 ∨ y = 1 ∨ ((y == 0) = false ∧ (y == 1) = false) := by by_cases h : y = 0 <;> by_cases h' : y = 1 <;> simp [h, h']
    rcases hyy with rfl | rfl | ⟨hy2, hy3⟩
    · go_wp2_with fail
      refine (pick_any B (q6 + 1) 3 _ (by omega) (by omega) (hr7.alloc _)).mono ?_
      rintro e w8 ⟨t, rfl, ht0, ht1, hr8, ho8, _⟩
      have hz8 := ho8.size
      simp at hz8
      obtain ⟨u, hu, cT⟩ := newCellAny [0, 9, 10] ho8 hr7.lt t ht0 ht1
      simp at hu
      have hu1 : -20000 ≤ u ∧ u ≤ 20000 := by omega
      have ho78 := (ho7.alloc (.cells (([0, 9, 10] : List Int).map (Value.int .i64)).toArray 3)).trans ho8
      have cS0 := newCellO ho78 hr6.lt 0 _ rfl
      have cS1 := newCellO ho78 hr6.lt 1 _ rfl
      have cS2 := newCellO ho78 hr6.lt 2 _ rfl
      have cS3 := newCellO ho78 hr6.lt 3 _ rfl
      have fS0 := newFrozenO ho78 hr6.lt 0
      have fS1 := newFrozenO ho78 hr6.lt 1
      have ho68 := ((hok.trans ho46).alloc _).trans ho78
      have cR0 := newCellO ho68 hBR 0 _ rfl
      have cR1 := newCellO ho68 hBR 1 _ rfl
      have cR2 := newCellO ho68 hBR 2 _ rfl
      have cR3 := newCellO ho68 hBR 3 _ rfl
      have fR0 := newFrozenO ho68 hBR 0
      have fR1 := newFrozenO ho68 hBR 1
      have fR2 := newFrozenO ho68 hBR 2
      have fR3 := newFrozenO ho68 hBR 3
      clear hu
      go_wp2
      refine bodyPost_ret (v := .agg #[.int .i64 (u), .int .i64 (d0), .int .i64 kd, .int .i64 v]) (by simp [results, Tryz.results31, go_sem, *]) rfl ⟨_, _, _, _, q6 + 2, rfl, ⟨by omega, by omega⟩, ⟨by omega, by omega⟩, ⟨by omega, by omega⟩, ⟨by omega, by omega⟩, by omega, ?_, ?_⟩
      · exact (Rd.setCell (Rd.setCell (Rd.setCell (Rd.setCell (Rd.setCell hr8 (by omega) _) (by omega) _) (by omega) _) (by omega) _) (by omega) _)
      · have hfin := ((Only.refl B w).alloc _).trans ho68
        exact (Only.setCell (Only.setCell (Only.setCell (Only.setCell (Only.setCell hfin (by omega) _) (by omega) _) (by omega) _) (by omega) _) (by omega) _)
    · go_wp2_with fail
      refine (pick_any B (q6 + 1) 3 _ (by omega) (by omega) (hr7.alloc _)).mono ?_
      rintro e w8 ⟨t, rfl, ht0, ht1, hr8, ho8, _⟩
      have hz8 := ho8.size
      simp at hz8
      obtain ⟨u, hu, cT⟩ := newCellAny [-1, 999, 1000] ho8 hr7.lt t ht0 ht1
      simp at hu
      have hu1 : -20000 ≤ u ∧ u ≤ 20000 := by omega
      have ho78 := (ho7.alloc (.cells (([-1, 999, 1000] : List Int).map (Value.int .i64)).toArray 3)).trans ho8
      have cS0 := newCellO ho78 hr6.lt 0 _ rfl
      have cS1 := newCellO ho78 hr6.lt 1 _ rfl
      have cS2 := newCellO ho78 hr6.lt 2 _ rfl
      have cS3 := newCellO ho78 hr6.lt 3 _ rfl
      have fS0 := newFrozenO ho78 hr6.lt 0
      have fS1 := newFrozenO ho78 hr6.lt 1
      have ho68 := ((hok.trans ho46).alloc _).trans ho78
      have cR0 := newCellO ho68 hBR 0 _ rfl
      have cR1 := newCellO ho68 hBR 1 _ rfl
      have cR2 := newCellO ho68 hBR 2 _ rfl
      have cR3 := newCellO ho68 hBR 3 _ rfl
      have fR0 := newFrozenO ho68 hBR 0
      have fR1 := newFrozenO ho68 hBR 1
      have fR2 := newFrozenO ho68 hBR 2
      have fR3 := newFrozenO ho68 hBR 3
      clear hu
      go_wp2
      refine bodyPost_ret (v := .agg #[.int .i64 (1 + s0), .int .i64 (u), .int .i64 kd, .int .i64 v]) (by simp [results, Tryz.results31, go_sem, *]) rfl ⟨_, _, _, _, q6 + 2, rfl, ⟨by omega, by omega⟩, ⟨by omega, by omega⟩, ⟨by omega, by omega⟩, ⟨by omega, by omega⟩, by omega, ?_, ?_⟩
      · exact (Rd.setCell (Rd.setCell (Rd.setCell (Rd.setCell (Rd.setCell hr8 (by omega) _) (by omega) _) (by omega) _) (by omega) _) (by omega) _)
      · have hfin := ((Only.refl B w).alloc _).trans ho68
        exact (Only.setCell (Only.setCell (Only.setCell (Only.setCell (Only.setCell hfin (by omega) _) (by omega) _) (by omega) _) (by omega) _) (by omega) _)
    · have hd2 : 0 ≤ 1 + s0 := by omega
      go_wp2
      refine bodyPost_ret (v := .agg #[.int .i64 (1 + s0), .int .i64 d0, .int .i64 kd, .int .i64 v]) (by simp [results, Tryz.results31, go_sem, *]) rfl ⟨_, _, _, _, q6 + 1, rfl, ⟨by omega, by omega⟩, ⟨by omega, by omega⟩, ⟨by omega, by omega⟩, ⟨by omega, by omega⟩, by omega, ?_, ?_⟩
      · exact (Rd.setCell (Rd.setCell (Rd.setCell (Rd.setCell hr7 (by omega) _) (by omega) _) (by omega) _) (by omega) _)
      · have hfin := ((Only.refl B w).alloc _).trans ho67
        exact (Only.setCell (Only.setCell (Only.setCell (Only.setCell hfin (by omega) _) (by omega) _) (by omega) _) (by omega) _)
end Go.Proofs.YtnemdnidlbekbaaGreatDoor
