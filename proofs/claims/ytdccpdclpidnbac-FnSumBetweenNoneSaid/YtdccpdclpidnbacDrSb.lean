/- Sums and two days are drawn. -/
import Derived.Test.YtdccpdclpidnbacSo2
import Derived.Test.YtdccpdclpidnbacDrSq
namespace Go.Proofs.Ytdccpdclpidnbac
open Go.RowKit
set_option linter.unusedVariables false

theorem Rd.keepU {w w' : World} {B p : Nat} (h : Rd w B p) (k : Keep w w') : Rd w' B p := by
  obtain ⟨a, len, cap, hl, hb, c0, c1, f1, hc⟩ := h
  have hcell : ∀ b o, b ≤ B → w'.cell? ⟨b, o, none⟩ = w.cell? ⟨b, o, none⟩ := fun b o hbo => World.cell?_of_block (Below.block k b (by omega))
  refine ⟨a, len, cap, hl, Nat.lt_of_lt_of_le hb k.size, (hcell B 0 (Nat.le_refl _)).trans c0, (hcell B 1 (Nat.le_refl _)).trans c1, ?_, hc.keep fun b o hbo => hcell b o (by omega)⟩
  rw [World.frozen?_of_block (a := ⟨B, 1, none⟩) (Below.block k B hb)]
  exact f1
set_option maxRecDepth 100000 in
set_option maxHeartbeats 2000000 in
theorem drawSumBetween (a0 : Option Addr) (len cap : Nat) (w : World) (ha : CodeArg w a0 len cap) :
    Calls Try.prog 38 #[.slice a0 len cap] w fun e w' => ∃ (a : Option Addr) (c : Nat) (ss : List R2) (f t : Int), e = .returned (.tuple #[.slice a ss.length c, .int .i64 f, .int .i64 t]) ∧ ss.length ≤ 13 ∧ Rr w' a ss ∧ Keep w w' := by
  go_enter Try.func38, Try.ntmps38
  go_wp2_with fail
  refine (open_any a0 len cap _ ha).mono ?_
  rintro e w1 ⟨rfl, hr1, hb, hs⟩
  have hb : Keep w w1 := hb
  go_wp2_with fail
  refine (drawSome _ 0 _ (by omega) hr1).mono ?_
  rintro e w2 ⟨n, q, rfl, hn, hq, hr2, ho2⟩
  go_wp2_with fail
  refine (drawSeries _ q n _ (by omega) hn hr2).mono ?_
  rintro e w3 ⟨v, zs, q3, rfl, hl, hB, hO, hq3, hr3, ho3⟩
  obtain ⟨a, c, rfl, hc, hL⟩ := hO.lsn hr2.lt
  have hl13 : zs.length ≤ 13 := by omega
  have hB3 := hr3.lt
  have hk3 : Keep w w3 := Only.keep (ho2.trans ho3) hb (Nat.le_refl _)
  clear hl hO
  go_wp2_with fail
  refine (su_spec a c zs _ hL.1 (by omega)).mono ?_
  rintro e w4 ⟨p, q4, rfl, hpq, hF, k4⟩
  have hk4 : Keep w w4 := hk3.trans k4
  have hr4 : Rd w4 w.heap.size q3 := hr3.keepU k4
  have HLS : Hid ((suL zs).length ≤ 13) := Lib.hid (suL_len zs)
  generalize suL zs = L at *
  have hLl := HLS.out
  clear hr3 hr2 hr1 k4 hk3 hb hL
  by_cases h0 : L.length = 0
  · have e0 : L = [] := List.length_eq_zero_iff.1 h0
    subst e0
    clear h0
    go_wp2_with fail
    refine (pick_any _ (q3) 6 _ (by omega) (by omega) hr4).mono ?_
    rintro e w7 ⟨x7, rfl, x70, x71, hr7, ho7, hs7⟩
    go_wp2_with fail
    refine (pick_any _ (q3 + 1) 12 _ (by omega) (by omega) hr7).mono ?_
    rintro e w8 ⟨x8, rfl, x80, x81, hr8, ho8, hs8⟩
    by_cases hz : x8 = 0
    · subst hz
      go_wp2_with fail
      refine (pick_any _ (q3 + 1 + 1) 20 _ (by omega) (by omega) hr8).mono ?_
      rintro e w9 ⟨x9, rfl, x90, x91, hr9, ho9, hs9⟩
      go_wp2
      refine bodyPost_ret (v := .tuple #[.slice p ([] : List R2).length q4, .int .i64 (x7 - 1), .int .i64 (x7 - 2 + x9)]) (by simp [results, Try.results38, go_sem, *]) rfl ⟨p, q4, _, _, _, rfl, HLS.out, (FrU.only (FrU.only (FrU.only hF ho7 hB3) ho8 hB3) ho9 hB3).rr, Only.keep ((ho7.trans ho8).trans ho9) hk4 (Nat.le_refl _)⟩
    · have hz' : (x8 == 0) = false := beq_eq_false_iff_ne.2 hz
      go_wp2_with fail
      refine (pick_any _ (q3 + 1 + 1) 8 _ (by omega) (by omega) hr8).mono ?_
      rintro e w9 ⟨x9, rfl, x90, x91, hr9, ho9, hs9⟩
      go_wp2
      refine bodyPost_ret (v := .tuple #[.slice p ([] : List R2).length q4, .int .i64 (x7), .int .i64 (x7 + x9)]) (by simp [results, Try.results38, go_sem, *]) rfl ⟨p, q4, _, _, _, rfl, HLS.out, (FrU.only (FrU.only (FrU.only hF ho7 hB3) ho8 hB3) ho9 hB3).rr, Only.keep ((ho7.trans ho8).trans ho9) hk4 (Nat.le_refl _)⟩
  have dl : decide ((0 : Int) < (L.length : Int)) = true := decide_eq_true (by omega)
  have dl2 : decide (0 < L.length) = true := decide_eq_true (by omega)
  go_wp2_with fail
  refine (pick_any _ q3 12 _ (by omega) (by omega) hr4).mono ?_
  rintro e w5 ⟨x5, rfl, x50, x51, hr5, ho5, hs5⟩
  have hk5 : Keep w w5 := Only.keep ho5 hk4 (Nat.le_refl _)
  have hF5 := hF.only ho5 hB3
  clear hF hr4
  by_cases hz5 : x5 = 0
  case' neg =>
    have hz5' : (x5 == 0) = false := beq_eq_false_iff_ne.2 hz5
    go_wp2_with fail
    refine (pick_any _ (q3 + 1) 6 _ (by omega) (by omega) hr5).mono ?_
    rintro e w7 ⟨x7, rfl, x70, x71, hr7, ho7, hs7⟩
    go_wp2_with fail
    refine (pick_any _ (q3 + 1 + 1) 12 _ (by omega) (by omega) hr7).mono ?_
    rintro e w8 ⟨x8, rfl, x80, x81, hr8, ho8, hs8⟩
    by_cases hz : x8 = 0
    · subst hz
      go_wp2_with fail
      refine (pick_any _ (q3 + 1 + 1 + 1) 20 _ (by omega) (by omega) hr8).mono ?_
      rintro e w9 ⟨x9, rfl, x90, x91, hr9, ho9, hs9⟩
      go_wp2
      refine bodyPost_ret (v := .tuple #[.slice p L.length q4, .int .i64 (x7 - 1), .int .i64 (x7 - 2 + x9)]) (by simp [results, Try.results38, go_sem, *]) rfl ⟨p, q4, _, _, _, rfl, HLS.out, (FrU.only (FrU.only (FrU.only hF5 ho7 hB3) ho8 hB3) ho9 hB3).rr, Only.keep ((ho7.trans ho8).trans ho9) hk5 (Nat.le_refl _)⟩
    · have hz' : (x8 == 0) = false := beq_eq_false_iff_ne.2 hz
      go_wp2_with fail
      refine (pick_any _ (q3 + 1 + 1 + 1) 8 _ (by omega) (by omega) hr8).mono ?_
      rintro e w9 ⟨x9, rfl, x90, x91, hr9, ho9, hs9⟩
      go_wp2
      refine bodyPost_ret (v := .tuple #[.slice p L.length q4, .int .i64 (x7), .int .i64 (x7 + x9)]) (by simp [results, Try.results38, go_sem, *]) rfl ⟨p, q4, _, _, _, rfl, HLS.out, (FrU.only (FrU.only (FrU.only hF5 ho7 hB3) ho8 hB3) ho9 hB3).rr, Only.keep ((ho7.trans ho8).trans ho9) hk5 (Nat.le_refl _)⟩
  subst hz5
  go_wp2_with fail
  refine (pick_any _ (q3 + 1) (L.length : Int) _ (by omega) (by omega) hr5).mono ?_
  rintro e w6 ⟨i6, rfl, i60, i61, hr6, ho6, hs6⟩
  go_wp2_with fail
  refine (pick_any _ (q3 + 1 + 1) 2 _ (by omega) (by omega) hr6).mono ?_
  rintro e wA ⟨xA, rfl, xA0, xA1, hrA, hoA, hsA⟩
  go_wp2_with fail
  refine (pick_any _ (q3 + 1 + 1 + 1) 3 _ (by omega) (by omega) hrA).mono ?_
  rintro e wB ⟨xB, rfl, xB0, xB1, hrB, hoB, hsB⟩
  have hkB : Keep w wB := Only.keep ((ho6.trans hoA).trans hoB) hk5 (Nat.le_refl _)
  have hFB := ((hF5.only ho6 hB3).only hoA hB3).only hoB hB3
  clear hF5 hr5 hr6 hrA hk5
  obtain ⟨i, rfl⟩ : ∃ i : Nat, i6 = (i : Int) := ⟨i6.toNat, by omega⟩
  have hiL : i < L.length := by omega
  rcases hFB with hFe | ⟨g, rfl, hg, hgl, hW⟩
  · subst hFe; simp at hiL
  have hWA := hW
  obtain ⟨⟨y0, y1⟩, f0, f1⟩ := hW i hiL
  generalize uL (L.getD i u0) = l0 at y0
  generalize uH (L.getD i u0) = l1 at y1
  have hset := WrU.set hWA hiL (xA * 1000000, xB * 50 - 1)
  have hgB : w.heap.size < g := by omega
  have hrS : Rd (put2 wB g (i * 2) (xA * 1000000, xB * 50 - 1)) w.heap.size (q3 + 1 + 1 + 1 + 1) := (hrB.setCell hgB _).setCell hgB _
  have hkS : Keep w (put2 wB g (i * 2) (xA * 1000000, xB * 50 - 1)) := put2_keep hkB (by omega)
  have hFS : FrU w3 (put2 wB g (i * 2) (xA * 1000000, xB * 50 - 1)) (some ⟨g, 0, none⟩) (L.set i (xA * 1000000, xB * 50 - 1)) := .inr ⟨g, rfl, hg, by simpa [put2, World.setCell] using hgl, hset⟩
  unfold put2 uL uH at hrS hkS hFS
  dsimp only at hrS hkS hFS
  have HLSS : Hid ((L.set i (xA * 1000000, xB * 50 - 1)).length ≤ 13) := Lib.hid (by rw [List.length_set]; exact HLS.out)
  have mw1 : IntKind.i64.wrap (xA * 1000000) = xA * 1000000 := IntWalk.i64_in _ ⟨by omega, by omega⟩
  have mw2 : IntKind.i64.wrap (xB * 50) = xB * 50 := IntWalk.i64_in _ ⟨by omega, by omega⟩
  have mw3 : IntKind.i64.wrap (xB * 50 - 1) = xB * 50 - 1 := IntWalk.i64_in _ ⟨by omega, by omega⟩
  clear hW hWA hset hrB hkB
  have HLn : Hid ((L.set i (xA * 1000000, xB * 50 - 1)).length = L.length) := Lib.hid List.length_set
  generalize L.set i (xA * 1000000, xB * 50 - 1) = ss at hFS HLSS HLn
  go_wp2_with fail
  refine (pick_any _ (q3 + 1 + 1 + 1 + 1) 6 _ (by omega) (by omega) hrS).mono ?_
  rintro e w7 ⟨x7, rfl, x70, x71, hr7, ho7, hs7⟩
  go_wp2_with fail
  refine (pick_any _ (q3 + 1 + 1 + 1 + 1 + 1) 12 _ (by omega) (by omega) hr7).mono ?_
  rintro e w8 ⟨x8, rfl, x80, x81, hr8, ho8, hs8⟩
  by_cases hz : x8 = 0
  · subst hz
    go_wp2_with fail
    refine (pick_any _ (q3 + 1 + 1 + 1 + 1 + 1 + 1) 20 _ (by omega) (by omega) hr8).mono ?_
    rintro e w9 ⟨x9, rfl, x90, x91, hr9, ho9, hs9⟩
    go_wp2
    refine bodyPost_ret (v := .tuple #[.slice (some ⟨g, 0, none⟩) L.length q4, .int .i64 (x7 - 1), .int .i64 (x7 - 2 + x9)]) (by simp [results, Try.results38, go_sem, *]) rfl ⟨some ⟨g, 0, none⟩, q4, ss, _, _, (by rw [HLn.out]), HLSS.out, (FrU.only (FrU.only (FrU.only hFS ho7 hB3) ho8 hB3) ho9 hB3).rr, Only.keep ((ho7.trans ho8).trans ho9) hkS (Nat.le_refl _)⟩
  · have hz' : (x8 == 0) = false := beq_eq_false_iff_ne.2 hz
    go_wp2_with fail
    refine (pick_any _ (q3 + 1 + 1 + 1 + 1 + 1 + 1) 8 _ (by omega) (by omega) hr8).mono ?_
    rintro e w9 ⟨x9, rfl, x90, x91, hr9, ho9, hs9⟩
    go_wp2
    refine bodyPost_ret (v := .tuple #[.slice (some ⟨g, 0, none⟩) L.length q4, .int .i64 (x7), .int .i64 (x7 + x9)]) (by simp [results, Try.results38, go_sem, *]) rfl ⟨some ⟨g, 0, none⟩, q4, ss, _, _, (by rw [HLn.out]), HLSS.out, (FrU.only (FrU.only (FrU.only hFS ho7 hB3) ho8 hB3) ho9 hB3).rr, Only.keep ((ho7.trans ho8).trans ho9) hkS (Nat.le_refl _)⟩
end Go.Proofs.Ytdccpdclpidnbac
