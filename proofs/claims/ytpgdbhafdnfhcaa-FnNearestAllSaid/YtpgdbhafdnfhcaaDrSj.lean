/- What the draws of networks hand out. -/
import Derived.Test.YtpgdbhafdnfhcaaDrSi
namespace Go.Proofs.Ytpgdbhafdnfhcaa
open Go.RowKit
set_option linter.unusedVariables false

theorem res3 {fn : Func} {t u v : Tmp} (h : fn.results = #[.tmp t, .tmp u, .tmp v]) (tmps : Array Value) (P : Program) (w : World) :
    (results fn tmps).run P w = .ok (.tuple #[tmps.getD t undef, tmps.getD u undef, tmps.getD v undef]) w := by
  simp [results, h, go_sem]
def DrewNe (w : World) (e : Ending) (w' : World) : Prop := ∃ (g c : Nat) (ts : List R3) (st many : Int), e = .returned (.tuple #[.slice (some ⟨g, 0, none⟩) ts.length c, .int .i64 st, .int .i64 many]) ∧ ts.length ≤ 7 ∧ ts.length ≤ c ∧ Ss w' (some ⟨g, 0, none⟩) ts ∧ (-1 ≤ many ∧ many ≤ 7) ∧ Keep w w'
set_option maxRecDepth 100000 in
set_option maxHeartbeats 2000000 in
theorem drawNearestOf (a0 : Option Addr) (len cap : Nat) (w : World) (ha : CodeArg w a0 len cap) :
    Calls Try.prog 45 #[.slice a0 len cap] w (DrewNe w) := by
  go_enter Try.func45, Try.ntmps45
  go_wp2_with fail
  refine (open_any a0 len cap _ ha).mono ?_
  rintro e w1 ⟨rfl, hr1, hb, hs⟩
  have hb : Keep w w1 := hb
  have hB1 := hb.size
  go_wp2_with fail
  refine (drawSites _ 0 _ (by omega) hr1).mono ?_
  rintro e w2 ⟨g, c, ts, q, rfl, hl, hc, hF, hq, hr2, ho2⟩
  have HL := Lib.hid (show ts.length ≤ 7 ∧ ts.length ≤ c from ⟨hl, hc⟩)
  have hBR := hr1.lt
  clear hc
  go_wp2_with fail
  refine (pick_any _ q 7 _ (by omega) (by omega) hr2).mono ?_
  rintro e w3 ⟨x, rfl, x0, x1, hr3, ho3, _⟩
  go_wp2_with fail
  refine (pick_any _ (q + 1) 16 _ (by omega) (by omega) hr3).mono ?_
  rintro e w4 ⟨y, rfl, y0, y1, hr4, ho4, _⟩
  have hF4 := (hF.only ho3 hBR).only ho4 hBR
  have ho24 := (ho2.trans ho3).trans ho4
  have hy : y = 0 ∨ (y == 0) = false := by by_cases h : y = 0 <;> simp [h]
  have hmain : ∀ (W : World) (m : Int) (Q : Nat), True := fun _ _ _ => trivial
  clear hmain hr2 hr3 ho2 ho3 ho4 hF
  rcases hy with rfl | hy
  · go_wp2_with fail
    refine (pick_any _ (q + 2) 2 _ (by omega) (by omega) hr4).mono ?_
    rintro e w5 ⟨z, rfl, z0, z1, hr5, ho5, _⟩
    have hF5 := hF4.only ho5 hBR
    have ho25 := ho24.trans ho5
    have hm1 : -1 ≤ z * 8 - 1 := by omega
    have hm2 : z * 8 - 1 ≤ 7 := by omega
    clear hF4 ho24 ho5 hr4
    by_cases h0 : ts.length = 0
    · have hg0 : ¬ (0 : Int) < (ts.length : Int) := by omega
      replace h0 := Lib.hid h0
      go_wp2_with fail
      refine (pick_any _ (q + 3) 10 _ (by omega) (by omega) hr5).mono ?_
      rintro e w6 ⟨v, rfl, v0, v1, hr6, ho6, _⟩
      have hk : Keep w w6 := Only.keep (ho25.trans ho6) hb (Nat.le_refl _)
      have hS6 := (hF5.only ho6 hBR).ss
      go_wp2
      try simp only [Exit.inBlock, Exit.then]
      refine bodyPost_ret (res3 rfl _ _ _) rfl ?_
      exact ⟨g, c, ts, _, _, rfl, HL.out.1, HL.out.2, hS6, ⟨hm1, hm2⟩, hk⟩
    have hg0 : (0 : Int) < (ts.length : Int) := by omega
    go_wp2_with fail
    refine (pick_any _ (q + 3) 8 _ (by omega) (by omega) hr5).mono ?_
    rintro e w6 ⟨t, rfl, t0', t1, hr6, ho6, _⟩
    have hF6 := hF5.only ho6 hBR
    have ho26 := ho25.trans ho6
    by_cases ht : 0 < t
    · have HP := Lib.hid (fun W (h : Rd W w.heap.size ((q + 3) + 1)) => pick_any w.heap.size ((q + 3) + 1) ts.length W (by omega) (by omega) h)
      have hr6d := Rd.drew hr6
      go_wp2_with fail
      go_region_with (go_at_call 83; (with_reducible refine (HP.out _ hr6d).mono ?_); rintro e w7 ⟨v, rfl, v0, v1, hr7, ho7, _⟩; obtain ⟨u, rfl⟩ : ∃ u : Nat, v = (u : Int) := ⟨v.toNat, by omega⟩; have ho7' : Only w.heap.size w6 w7 := ((Only.refl w.heap.size w6).drewN 1).trans ho7; have hF7 := hF6.only ho7' hBR; obtain ⟨b', o', he7, _, ⟨cs7, _, _⟩⟩ := hF7.ss.at_ (show u < ts.length by omega); injection he7 with he7; injection he7 with e71 e72 _; subst e71; subst e72; rw [Nat.zero_add] at cs7; have HK7 := Lib.hid (show Keep w w7 from Only.keep (ho26.trans ho7') hb (Nat.le_refl _)); have HS7 := Lib.hid hF7.ss; clear hF7 ho7 ho7' hr7)
      all_goals
        go_wp2
        try simp only [Exit.inBlock, Exit.then]
        refine bodyPost_ret (res3 rfl _ _ _) rfl ?_
        exact ⟨g, c, ts, _, _, rfl, HL.out.1, HL.out.2, HS7.out, ⟨hm1, hm2⟩, HK7.out⟩
    · go_wp2_with fail
      refine (pick_any _ ((q + 3) + 1) 10 _ (by omega) (by omega) hr6).mono ?_
      rintro e w7 ⟨v, rfl, v0, v1, hr7, ho7, _⟩
      have hk : Keep w w7 := Only.keep (ho26.trans ho7) hb (Nat.le_refl _)
      have hS7 := (hF6.only ho7 hBR).ss
      go_wp2
      try simp only [Exit.inBlock, Exit.then]
      refine bodyPost_ret (res3 rfl _ _ _) rfl ?_
      exact ⟨g, c, ts, _, _, rfl, HL.out.1, HL.out.2, hS7, ⟨hm1, hm2⟩, hk⟩
  · have hm1 : -1 ≤ x := by omega
    have hm2 : x ≤ 7 := by omega
    obtain ⟨w5, rfl⟩ : ∃ w5 : World, w5 = w4 := ⟨_, rfl⟩
    have hr5 := hr4
    have hF5 := hF4
    have ho25 := ho24
    clear hr4 hF4 ho24
    by_cases h0 : ts.length = 0
    · have hg0 : ¬ (0 : Int) < (ts.length : Int) := by omega
      replace h0 := Lib.hid h0
      go_wp2_with fail
      refine (pick_any _ (q + 2) 10 _ (by omega) (by omega) hr5).mono ?_
      rintro e w6 ⟨v, rfl, v0, v1, hr6, ho6, _⟩
      have hk : Keep w w6 := Only.keep (ho25.trans ho6) hb (Nat.le_refl _)
      have hS6 := (hF5.only ho6 hBR).ss
      go_wp2
      try simp only [Exit.inBlock, Exit.then]
      refine bodyPost_ret (res3 rfl _ _ _) rfl ?_
      exact ⟨g, c, ts, _, _, rfl, HL.out.1, HL.out.2, hS6, ⟨hm1, hm2⟩, hk⟩
    have hg0 : (0 : Int) < (ts.length : Int) := by omega
    go_wp2_with fail
    refine (pick_any _ (q + 2) 8 _ (by omega) (by omega) hr5).mono ?_
    rintro e w6 ⟨t, rfl, t0', t1, hr6, ho6, _⟩
    have hF6 := hF5.only ho6 hBR
    have ho26 := ho25.trans ho6
    by_cases ht : 0 < t
    · have HP := Lib.hid (fun W (h : Rd W w.heap.size ((q + 2) + 1)) => pick_any w.heap.size ((q + 2) + 1) ts.length W (by omega) (by omega) h)
      have hr6d := Rd.drew hr6
      go_wp2_with fail
      go_region_with (go_at_call 83; (with_reducible refine (HP.out _ hr6d).mono ?_); rintro e w7 ⟨v, rfl, v0, v1, hr7, ho7, _⟩; obtain ⟨u, rfl⟩ : ∃ u : Nat, v = (u : Int) := ⟨v.toNat, by omega⟩; have ho7' : Only w.heap.size w6 w7 := ((Only.refl w.heap.size w6).drewN 1).trans ho7; have hF7 := hF6.only ho7' hBR; obtain ⟨b', o', he7, _, ⟨cs7, _, _⟩⟩ := hF7.ss.at_ (show u < ts.length by omega); injection he7 with he7; injection he7 with e71 e72 _; subst e71; subst e72; rw [Nat.zero_add] at cs7; have HK7 := Lib.hid (show Keep w w7 from Only.keep (ho26.trans ho7') hb (Nat.le_refl _)); have HS7 := Lib.hid hF7.ss; clear hF7 ho7 ho7' hr7)
      all_goals
        go_wp2
        try simp only [Exit.inBlock, Exit.then]
        refine bodyPost_ret (res3 rfl _ _ _) rfl ?_
        exact ⟨g, c, ts, _, _, rfl, HL.out.1, HL.out.2, HS7.out, ⟨hm1, hm2⟩, HK7.out⟩
    · go_wp2_with fail
      refine (pick_any _ ((q + 2) + 1) 10 _ (by omega) (by omega) hr6).mono ?_
      rintro e w7 ⟨v, rfl, v0, v1, hr7, ho7, _⟩
      have hk : Keep w w7 := Only.keep (ho26.trans ho7) hb (Nat.le_refl _)
      have hS7 := (hF6.only ho7 hBR).ss
      go_wp2
      try simp only [Exit.inBlock, Exit.then]
      refine bodyPost_ret (res3 rfl _ _ _) rfl ?_
      exact ⟨g, c, ts, _, _, rfl, HL.out.1, HL.out.2, hS7, ⟨hm1, hm2⟩, hk⟩
end Go.Proofs.Ytpgdbhafdnfhcaa
