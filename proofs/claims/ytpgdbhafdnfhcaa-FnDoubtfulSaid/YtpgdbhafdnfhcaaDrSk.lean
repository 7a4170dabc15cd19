/- What the draws of doubtful values hand out. -/
import Derived.Test.YtpgdbhafdnfhcaaDrSi
import Derived.Test.YtpgdbhafdnfhcaaDrSq
import Derived.Deep.RegionWith
namespace Go.Proofs.Ytpgdbhafdnfhcaa
open Go.RowKit
set_option linter.unusedVariables false

def DrewDb (w : World) (e : Ending) (w' : World) : Prop := ∃ (g c : Nat) (ts : List R3) (a : Option Addr) (cv : Nat) (vs : List Int) (many most : Int), e = .returned (.tuple #[.slice (some ⟨g, 0, none⟩) ts.length c, .slice a vs.length cv, .int .i64 many, .int .i64 most]) ∧ ts.length ≤ 7 ∧ ts.length ≤ c ∧ Ss w' (some ⟨g, 0, none⟩) ts ∧ vs.length ≤ 7 ∧ vs.length ≤ cv ∧ Btw (-10000) 12000 vs ∧ Ls w' a vs ∧ (-1 ≤ many ∧ many ≤ 7) ∧ (-1 ≤ most ∧ most ≤ 30) ∧ Keep w w'
theorem mem3 {j : Int} (h : j ∈ ([-1, 0, 7] : List Int)) : -1 ≤ j ∧ j ≤ 7 := by simp at h; omega
theorem pick3 {i j : Int} (h0 : 0 ≤ i) (h1 : i < 3) (h : #[Value.int .i64 (-1), .int .i64 0, .int .i64 7][i.toNat]? = some (.int .i64 j)) : -1 ≤ j ∧ j ≤ 7 := by
  have : i = 0 ∨ i = 1 ∨ i = 2 := by omega
  rcases this with rfl | rfl | rfl
  all_goals
    simp at h
    omega
set_option maxRecDepth 100000 in
set_option maxHeartbeats 8000000 in
theorem drawDoubtfulOf (a0 : Option Addr) (len cap : Nat) (w : World) (ha : CodeArg w a0 len cap) :
    Calls Try.prog 39 #[.slice a0 len cap] w (DrewDb w) := by
  go_enter Try.func39, Try.ntmps39
  go_wp2_with fail
  refine (open_any a0 len cap _ ha).mono ?_
  rintro e w1 ⟨rfl, hr1, hb, hs⟩
  have hb : Keep w w1 := hb
  have hB1 := hb.size
  have hBR := hr1.lt
  go_wp2_with fail
  refine (drawSites _ 0 _ (by omega) hr1).mono ?_
  rintro e w2 ⟨g, c, ts, q, rfl, hl, hc, hF, hq, hr2, ho2⟩
  have HL := Lib.hid (show ts.length ≤ 7 ∧ ts.length ≤ c from ⟨hl, hc⟩)
  clear hc hr1
  go_wp2_with fail
  refine (drawSeries _ q ts.length _ (by omega) (by omega) hr2).mono ?_
  rintro e w3 ⟨v, zs, q3, rfl, hlz, hB, hO, hq3, hr3, ho3⟩
  obtain ⟨a, cv, rfl, hcv, hV⟩ := hO.lsn hr2.lt
  have HV := Lib.hid (show zs.length ≤ 7 ∧ zs.length ≤ cv ∧ Btw (-10000) 12000 zs from ⟨by omega, hcv, hB⟩)
  have hF3 := hF.only ho3 hBR
  have ho23 := ho2.trans ho3
  clear hlz hcv hB hO hF hr2 ho2 ho3
  go_wp2_with fail
  refine (pick_any _ q3 16 _ (by omega) (by omega) hr3).mono ?_
  rintro e w4 ⟨x, rfl, x0, x1, hr4, ho4, _⟩
  have hF4 := hF3.only ho4 hBR
  have hV4 := hV.onlyo ho4
  have ho24 := ho23.trans ho4
  clear hF3 hV hr3 ho23 ho4
  have hx : x = 0 ∨ (x == 0) = false := by by_cases h : x = 0 <;> simp [h]
  have hmain : ∀ (W : World), True := fun _ => trivial
  clear hmain
  have hpost : ∀ (x5 : Int) (h0 : 0 ≤ x5) (h1 : x5 < 5), -1 ≤ 1 + x5 ∧ 1 + x5 ≤ 7 := fun x5 h0 h1 => ⟨by omega, by omega⟩
  have hq4 : q3 + 1 ≤ 80 := by omega
  generalize hqq : q3 + 1 = q4 at hr4 hq4
  clear hqq hq3 hq
  rcases hx with rfl | hx
  case' inl =>
    go_wp2_with fail
    refine (drawSeries _ q4 3 _ (by omega) (by omega) hr4).mono ?_
    clear hV4 HV
    rintro e w5 ⟨v, zs, q5, rfl, hlz, hB, hO, hq5, hr5, ho5⟩
    obtain ⟨a, cv, rfl, hcv, hV5⟩ := hO.lsn hr4.lt
    have HV := Lib.hid (show zs.length ≤ 7 ∧ zs.length ≤ cv ∧ Btw (-10000) 12000 zs from ⟨by omega, hcv, hB⟩)
    have hF5 := hF4.only ho5 hBR
    have ho25 := ho24.trans ho5
    have hq6 : q5 ≤ 100 := by omega
    clear hlz hcv hB hO hF4 hr4 ho24 ho5 hq5 hq4
  case' inr =>
    obtain ⟨w5, rfl⟩ : ∃ w5 : World, w5 = w4 := ⟨_, rfl⟩
    obtain ⟨q5, rfl⟩ : ∃ q5 : Nat, q5 = q4 := ⟨_, rfl⟩
    have hr5 := hr4
    have hF5 := hF4
    have hV5 := hV4
    have ho25 := ho24
    have hq6 : q5 ≤ 100 := by omega
    clear hr4 hF4 ho24 hV4 hq4
  all_goals
    go_wp2_with fail
    refine (pick_any _ q5 5 _ (by omega) (by omega) hr5).mono ?_
    rintro e w6 ⟨y, rfl, y0, y1, hr6, ho6, _⟩
    have hF6 := hF5.only ho6 hBR
    have hV6 := hV5.onlyo ho6
    have ho26 := ho25.trans ho6
    clear hF5 hV5 hr5 ho25 ho6
    go_wp2_with fail
    refine (pick_any _ (q5 + 1) 16 _ (by omega) (by omega) hr6).mono ?_
    rintro e w7 ⟨z, rfl, z0, z1, hr7, ho7, _⟩
    have hF7 := hF6.only ho7 hBR
    have hV7 := hV6.onlyo ho7
    have ho27 := ho26.trans ho7
    clear hF6 hV6 hr6 ho26 ho7
    rcases (show z = 0 ∨ (z == 0) = false by by_cases h : z = 0 <;> simp [h]) with rfl | hz
    · clear z0 z1
      go_wp2_with fail
      have hdF := hF7.keep ((Keep.refl w7).drewN 1)
      have hdO := ho27.drewN 1
      have haF : ∀ o : Obj, FrS w1 (w7.alloc o).drew (some ⟨g, 0, none⟩) ts := fun o => hF7.keep (((Keep.refl w7).alloc o).drewN 1)
      have haO : ∀ o : Obj, Only w.heap.size w1 (w7.alloc o).drew := fun o => (ho27.alloc o).drewN 1
      have has : ∀ o : Obj, (w7.alloc o).drew.heap.size = w7.heap.size + 1 := fun o => by simp [World.drew]
      have hl7 := hr7.lt
      go_region_with (first
        | (go_at_call 83; (with_reducible refine (pick_any _ (q5 + 2) 3 _ (by omega) (by omega) (Rd.drew hr7)).mono ?_); rintro e w8 ⟨i, rfl, i0, i1, hr8, ho8, _⟩; obtain ⟨j, j0, j1, cj, cj2, cj3⟩ := freshSm [-1, 0, 7] w8 3 i i0 i1 (by simp); simp only [List.map_cons, List.map_nil] at cj cj2 cj3; have hjj := pick3 i0 i1 cj2; have hF8 := hdF.only ho8 hBR; have hV8 := hV7.drew.onlyo ho8; have ho28 := hdO.trans ho8; have hA8 : True := trivial)
        | (go_at_call 83; (with_reducible refine (pick_any _ (q5 + 2) 3 _ (by omega) (by omega) (Rd.drew (hr7.alloc _))).mono ?_); rintro e w8 ⟨i, rfl, i0, i1, hr8, ho8, _⟩; obtain ⟨j, hj, cj⟩ := newCellAnyD [-1, 0, 7] ho8 hr7.lt i i0 i1; have hjj := mem3 hj; clear hj; have hF8 := (haF _).only ho8 hBR; have hV8 := (hV7.alloc _).drew.onlyo ho8; have ho28 := (haO _).trans ho8; have hB8 := ho8.size; rw [has] at hB8)
        | (go_at_call 83; (with_reducible refine (pick_any _ (q5 + 3) 3 _ (by omega) (by omega) hr8).mono ?_); rintro e w9 ⟨k, rfl, k0, k1, hr9, ho9, _⟩; have hF9 := hF8.only ho9 hBR; have hV9 := hV8.onlyo ho9; have hk := Only.keep (ho28.trans ho9) hb (Nat.le_refl _); (first | (clear hA8; obtain ⟨j, j0, j1, cj, cj2, cj3⟩ := freshSm [-1, 0, 7] w9 3 i i0 i1 (by simp); simp only [List.map_cons, List.map_nil] at cj cj2 cj3; have hjj := pick3 i0 i1 cj2) | (have cj9 := (ho9.cell _ _ (by omega) (by omega)).trans cj)))
        | (go_at_call 83; (with_reducible refine (pick_any _ (q5 + 3) 3 _ (by omega) (by omega) (hr8.alloc _)).mono ?_); rintro e w9 ⟨k, rfl, k0, k1, hr9, ho9, _⟩; have hF9 := (hF8.keep ((Keep.refl _).alloc _)).only ho9 hBR; have hV9 := (hV8.alloc _).onlyo ho9; have hk := Only.keep ((ho28.alloc _).trans ho9) hb (Nat.le_refl _); have hl8 := hr8.lt; have cj9 := (ho9.cell _ _ (by simp) (by omega)).trans cj))
      all_goals
        clear hdF hdO haF haO has
        go_wp2
        try simp only [Exit.inBlock, Exit.then]
        refine bodyPost_ret (res4 rfl _ _ _) rfl ?_
        refine ⟨g, c, ts, a, cv, zs, _, _, rfl, HL.out.1, HL.out.2, ?_, HV.out.1, HV.out.2.1, HV.out.2.2, ?_, ⟨by omega, by omega⟩, ?_, ?_⟩
        · first | exact hF9.ss | exact (hF9.keep ((Keep.refl _).alloc _)).ss
        · first | exact hV9.1 | exact (hV9.alloc _).1
        · clear hF9 hV9 hk
          first | exact ⟨by omega, by omega⟩ | (rw [IntWalk.i64_in _ (by omega)]; exact ⟨by omega, by omega⟩)
        · first | exact hk | exact hk.alloc _
    · go_wp2_with fail
      refine (pick_any _ (q5 + 2) 30 _ (by omega) (by omega) hr7).mono ?_
      rintro e w9 ⟨i, rfl, i0, i1, hr9, ho9, _⟩
      have hk : Keep w w9 := Only.keep (ho27.trans ho9) hb (Nat.le_refl _)
      have hF9 := hF7.only ho9 hBR
      have hV9 := hV7.onlyo ho9
      go_wp2
      try simp only [Exit.inBlock, Exit.then]
      refine bodyPost_ret (res4 rfl _ _ _) rfl ?_
      exact ⟨g, c, ts, a, cv, zs, _, _, rfl, HL.out.1, HL.out.2, hF9.ss, HV.out.1, HV.out.2.1, HV.out.2.2, hV9.1, ⟨by omega, by omega⟩, ⟨by omega, by omega⟩, hk⟩
end Go.Proofs.Ytpgdbhafdnfhcaa
