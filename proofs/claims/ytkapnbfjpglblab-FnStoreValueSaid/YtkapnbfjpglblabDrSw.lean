/- How a question to a store is drawn. -/
import Derived.Test.YtkapnbfjpglblabDrSs
namespace Go.Proofs.Ytkapnbfjpglblab
open Go.RowKit
set_option linter.unusedVariables false

theorem results_tmp5 {fn : Func} {t u v x y : Tmp} (h : fn.results = #[.tmp t, .tmp u, .tmp v, .tmp x, .tmp y]) (tmps : Array Value) (P : Program) (w : World) :
    (results fn tmps).run P w = .ok (.tuple #[tmps.getD t undef, tmps.getD u undef, tmps.getD v undef, tmps.getD x undef, tmps.getD y undef]) w := by
  simp [results, h]
set_option maxRecDepth 100000 in
set_option maxHeartbeats 2000000 in
theorem drawStoreValue (a : Option Addr) (len cap : Nat) (w : World) (ha : CodeArg w a len cap) :
    Calls Try.prog 25 #[.slice a len cap] w fun e w' => ∃ (g c : Nat) (rs : List R4) (n s d t : Int), e = .returned (.tuple #[.slice (some ⟨g, 0, none⟩) rs.length c, .int .i64 n, .int .i64 s, .int .i64 d, .int .i64 t]) ∧
      rs.length ≤ 40 ∧ rs.length ≤ c ∧ FrR w w' (some ⟨g, 0, none⟩) rs ∧ Keep w w' := by
  go_enter Try.func25, Try.ntmps25
  go_wp2_with fail
  refine (open_any a len cap _ ha).mono ?_
  rintro e w1 ⟨rfl, hr1, hb1, hs1⟩
  have k1 : Keep w w1 := hb1
  have hB1 := hr1.lt
  go_wp2_with fail
  refine (drawStore _ 0 _ (by omega) hr1).mono ?_
  rintro e w2 ⟨g, c, rs, q, rfl, hl, hcl, hF, hq, hr2, ho2⟩
  go_wp2_with fail
  refine (drawVersion _ q rs.length _ (by omega) hl hr2).mono ?_
  rintro e w3 ⟨n, q3, rfl, hn0, hn1, hq3, hr3, ho3⟩
  have ho := ho2.trans ho3
  have hF3 := hF.only ho3 hB1
  have hK3 : Keep w w3 := Keep.trans' k1 ho (Nat.le_refl _)
  clear hF hr1 hr2
  by_cases h0 : 0 < (rs.length : Int)
  · go_wp2_with fail
    refine (pick_any _ q3 4 _ (by omega) (by omega) hr3).mono ?_
    rintro e w4 ⟨z4, rfl, h40, h41, hr4, ho4, _⟩
    have hF4 := hF3.only ho4 hB1
    have hK4 : Keep w w4 := Keep.trans' hK3 ho4 (Nat.le_refl _)
    by_cases hz : 0 < z4
    · go_wp2_with fail
      refine (pick_any _ (q3 + 1) rs.length _ (by omega) (by omega) hr4).mono ?_
      rintro e w5 ⟨z5, rfl, h50, h51, hr5, ho5, _⟩
      have hF5 := hF4.only ho5 hB1
      have hK5 : Keep w w5 := Keep.trans' hK4 ho5 (Nat.le_refl _)
      obtain ⟨u, rfl⟩ : ∃ u : Nat, z5 = (u : Int) := ⟨z5.toNat, by omega⟩
      have hu : u < rs.length := by omega
      obtain ⟨b, off, hbo, hb, ⟨c0, c1, c2, c3⟩⟩ := hF5.rs.at_ hu
      injection hbo with hbo
      injection hbo with hg0 hq0 _
      subst hg0
      subst hq0
      generalize rS (rs.getD u r0) = x0 at c0
      generalize rD (rs.getD u r0) = x1 at c1
      generalize rK (rs.getD u r0) = x2 at c2
      generalize rV (rs.getD u r0) = x3 at c3
      rw [Nat.zero_add] at c0 c1 c2 c3
      go_wp2_with fail
      go_quiet (fail)
      go_wp2
      try simp only [Exit.inBlock, Exit.then]
      refine bodyPost_ret (results_tmp5 rfl _ _ _) rfl ?_
      exact ⟨g, c, rs, n, _, _, _, rfl, hl, hcl, (FrR.mono (hF5.keep (((Keep.refl w5).alloc _).drewN _)) k1.size), (hK5.alloc _).drewN _⟩
    · go_wp2_with fail
      refine (pick_any _ (q3 + 1) 3 _ (by omega) (by omega) hr4).mono ?_
      rintro e w5 ⟨z5, rfl, h50, h51, hr5, ho5, _⟩
      go_wp2_with fail
      refine (pick_any _ (q3 + 2) 8 _ (by omega) (by omega) hr5).mono ?_
      rintro e w6 ⟨z6, rfl, h60, h61, hr6, ho6, _⟩
      go_wp2_with fail
      refine (pick_any _ (q3 + 3) 5 _ (by omega) (by omega) hr6).mono ?_
      rintro e w7 ⟨z7, rfl, h70, h71, hr7, ho7, _⟩
      have hoo := (ho5.trans ho6).trans ho7
      go_wp2
      try simp only [Exit.inBlock, Exit.then]
      refine bodyPost_ret (results_tmp5 rfl _ _ _) rfl ?_
      exact ⟨g, c, rs, n, _, _, _, rfl, hl, hcl, (hF4.only hoo hB1).mono k1.size, Keep.trans' hK4 hoo (Nat.le_refl _)⟩
  · go_wp2_with fail
    refine (pick_any _ q3 3 _ (by omega) (by omega) hr3).mono ?_
    rintro e w5 ⟨z5, rfl, h50, h51, hr5, ho5, _⟩
    go_wp2_with fail
    refine (pick_any _ (q3 + 1) 8 _ (by omega) (by omega) hr5).mono ?_
    rintro e w6 ⟨z6, rfl, h60, h61, hr6, ho6, _⟩
    go_wp2_with fail
    refine (pick_any _ (q3 + 2) 5 _ (by omega) (by omega) hr6).mono ?_
    rintro e w7 ⟨z7, rfl, h70, h71, hr7, ho7, _⟩
    have hoo := (ho5.trans ho6).trans ho7
    go_wp2
    try simp only [Exit.inBlock, Exit.then]
    refine bodyPost_ret (results_tmp5 rfl _ _ _) rfl ?_
    exact ⟨g, c, rs, n, _, _, _, rfl, hl, hcl, (hF3.only hoo hB1).mono k1.size, Keep.trans' hK3 hoo (Nat.le_refl _)⟩
end Go.Proofs.Ytkapnbfjpglblab
