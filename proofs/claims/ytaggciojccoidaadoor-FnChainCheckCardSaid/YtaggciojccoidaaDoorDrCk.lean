/- How the arguments of ChainCheck are drawn. -/
import Derived.Test.YtaggciojccoidaaDoorDrCh
import Derived.Test.YtaggciojccoidaaDoorCi
import Derived.Deep.QuietTactic
import Derived.BigQuiet
namespace Go.Proofs.YtaggciojccoidaaDoor
open Go.RowKit
set_option linter.unusedVariables false

theorem chL_bd (rs : List R4) {k : Nat} (hk : k < (chL rs).length) : 0 ≤ (chL rs).getD k 0 ∧ (chL rs).getD k 0 < 9973 := by
  cases h : stB rs
  · rw [chL_no h] at hk; simp at hk
  · rw [chL_yes h, chP_len] at hk
    rw [chL_yes h, chP_at rs hk]
    have := chN_lt rs (k + 1)
    omega
theorem res2ck {fn : Func} {t u : Tmp} (h : fn.results = #[.tmp t, .tmp u]) (tmps : Array Value) (P : Program) (w : World) :
    (results fn tmps).run P w = .ok (.tuple #[tmps.getD t undef, tmps.getD u undef]) w := by
  simp [results, h]
def DrewCk (w : World) (e : Ending) (w' : World) : Prop := ∃ (gg c : Nat) (rs : List R4) (b : Option Addr) (d : Nat) (ys : List Int), e = .returned (.tuple #[.slice (some ⟨gg, 0, none⟩) rs.length c, .slice b ys.length d]) ∧ rs.length ≤ 40 ∧ ys.length ≤ 40 ∧ Rs w' (some ⟨gg, 0, none⟩) rs ∧ Ls w' b ys ∧ Keep w w'
theorem ls_takeK {w : World} {a : Option Addr} {zs : List Int} (h : Ls w a zs) (k : Nat) : Ls w a (zs.take k) := by
  rcases h with h | ⟨b, off, ha, hb, hc⟩
  · left; rw [h]; simp
  · refine .inr ⟨b, off, ha, hb, fun i hi => ?_⟩
    rw [List.length_take] at hi
    rw [hc i (by omega)]
    simp [List.getD_eq_getElem?_getD, show i < k by omega]
set_option maxRecDepth 100000 in
set_option maxHeartbeats 4000000 in
theorem drawChainCheck (a : Option Addr) (len cap : Nat) (w : World) (ha : CodeArg w a len cap) :
    Calls Tryd.prog 15 #[.slice a len cap] w (DrewCk w) := by
  go_enter Tryd.func15, Tryd.ntmps15
  go_wp2_with fail
  refine (open_any a len cap _ ha).mono ?_
  rintro e w1 ⟨rfl, hr1, hb1, hs1⟩
  have k1 : Keep w w1 := hb1
  go_wp2_with fail
  refine (drawStore _ 0 _ (by omega) hr1).mono ?_
  rintro e w2 ⟨gg, c, rs, q, rfl, hl, hcl, hF, hq, hr2, ho2⟩
  have K2 : Keep w w2 := Keep.trans' k1 ho2 (Nat.le_refl _)
  have hBR := hr2.lt
  have hz := chL_len (rs := rs)
  have HBD := Lib.hid (fun k (hk : k < (chL rs).length) => chL_bd rs hk)
  go_wp2_with fail
  refine (ch_spec _ c rs _ hF.rs (by omega)).mono ?_
  rintro e w3 ⟨p, d, rfl, hqc, hF3, k3⟩
  have hR3 := Lib.hid (hF.keep k3)
  have hr3 := hr2.keepS k3
  have K3 := K2.trans k3
  have hsz := k1.size
  have hLo : w.heap.size < w1.heap.size := hs1
  have hgg : rs = [] ∨ gg < w2.heap.size := by
    rcases hF with h | ⟨g', e, _, h2, _⟩
    · exact .inl h
    · injection e with e; injection e with e _ _; exact .inr (by omega)
  clear hF hr1 hr2 ho2 k3
  generalize chL rs = L at *
  by_cases h0 : L.length = 0
  · have h0' : ¬ 0 < (L.length : Int) := by omega
    replace h0 := Lib.hid h0
    have HL := Lib.hid hF3.ls
    go_wp2
    try simp only [Exit.inBlock, Exit.then]
    refine bodyPost_ret (res2ck rfl _ _ _) rfl ?_
    exact ⟨gg, c, rs, p, d, L, rfl, hl, hz, hR3.out.rs, HL.out, K3⟩
  have h1 : 0 < (L.length : Int) := by omega
  have h1n : 0 < L.length := by omega
  rcases hF3 with hF3 | ⟨g, rfl, hg2, hg3, hW⟩
  · rw [hF3] at h0; simp at h0
  have hWr := Lib.hid hW
  clear hW h0
  go_wp2_with fail
  refine (pick_any _ q L.length _ (by omega) (by omega) hr3).mono ?_
  rintro e w4 ⟨x, rfl, x0, x1, hr4, ho4, hs4⟩
  obtain ⟨u, rfl⟩ := Int.eq_ofNat_of_zero_le x0
  have hu : u < L.length := by omega
  go_wp2_with fail
  refine (pick_any _ (q + 1) 4 _ (by omega) (by omega) hr4).mono ?_
  rintro e w5 ⟨y, rfl, y0, y1, hr5, ho5, hs5⟩
  have HO := ho4.trans ho5
  have K5 : Keep w w5 := Keep.trans' K3 HO (Nat.le_refl _)
  have hR5 := Lib.hid (hR3.out.only HO (by omega)).rs
  have hW5 := Lib.hid (HO.wr hWr.out (by omega))
  clear hr3 hr4 hr5 ho4 ho5 HO hR3 hWr
  have u0 : (0 : Int) ≤ (u : Int) := by omega
  have u1 : (u : Int) < (L.length : Int) := by omega
  rcases (show y = 0 ∨ ((y == 0) = false ∧ y = 1) ∨ ((y == 0) = false ∧ (y == 1) = false) by
    by_cases a0 : y = 0
    · exact .inl a0
    · by_cases a1 : y = 1
      · exact .inr (.inl ⟨by simp [a0], a1⟩)
      · exact .inr (.inr ⟨by simp [a0], by simp [a1]⟩)) with rfl | ⟨e0, rfl⟩ | ⟨e0, e1⟩
  · obtain ⟨c0, f0⟩ := hW5.out u hu
    obtain ⟨b0, b1⟩ := HBD.out u hu
    obtain ⟨z, hzv⟩ : ∃ z, L.getD u 0 = z := ⟨_, rfl⟩
    rw [hzv] at c0 b0 b1
    obtain ⟨z2, hz2⟩ : ∃ z2, Int.tmod (z + 1) 9973 = z2 := ⟨_, rfl⟩
    have HWs := Lib.hid (hW5.out.set hu z2)
    have hz2w : IntKind.i64.wrap z2 = z2 := IntWalk.i64_in _ (by
      have h1 := Int.tmod_lt_of_pos (z + 1) (show (0 : Int) < 9973 by omega)
      have h2 := Int.tmod_nonneg (b := 9973) (a := z + 1) (by omega)
      omega)
    have HLs : Hid ((L.set u z2).length = L.length) := Lib.hid (by simp)
    have K6 : Keep w (w5.setCell ⟨g, u, none⟩ (.int .i64 z2)) := K5.setCell (by have := K2.size; omega) _
    have hR6 : Hid (Rs (w5.setCell ⟨g, u, none⟩ (.int .i64 z2)) (some ⟨gg, 0, none⟩) rs) := Lib.hid (by
      rcases hgg with h | h
      · exact .inl h
      · exact ((Only.refl g w5).put1 u _).rs hR5.out (fun b o hb => by injection hb with hb; injection hb with hb _ _; omega))
    clear hzv HBD
    go_wp2
    try simp only [Exit.inBlock, Exit.then]
    refine bodyPost_ret (res2ck rfl _ _ _) rfl ?_
    refine ⟨gg, c, rs, some ⟨g, 0, none⟩, d, L.set u z2, by rw [HLs.out]; first | rfl | simp, hl, by rw [HLs.out]; exact hz, ?_, ?_, ?_⟩
    · first | exact hR6.out | (simp only [hz2]; exact hR6.out)
    · first | exact HWs.out.ls | (simp only [hz2]; exact HWs.out.ls)
    · first | exact K6 | (simp only [hz2]; exact K6)
  · have HLt : Hid ((L.take u).length = u) := Lib.hid (by rw [List.length_take]; omega)
    have u2 : (u : Int) ≤ (d : Int) := by omega
    have HLT := Lib.hid (ls_takeK hW5.out.ls u)
    clear HBD
    go_wp2_with fail
    try go_quiet (fail)
    try go_wp2
    try simp only [Exit.inBlock, Exit.then]
    refine bodyPost_ret (res2ck rfl _ _ _) rfl ?_
    exact ⟨gg, c, rs, some ⟨g, 0, none⟩, d, L.take u, by rw [HLt.out]; rfl, hl, by rw [HLt.out]; omega, by first | exact hR5.out | exact hR5.out.keep ((Keep.refl w5).drewN _), by first | exact HLT.out | exact HLT.out.keep ((Keep.refl w5).drewN _), by first | exact K5 | exact K5.drewN _⟩
  · go_wp2
    try simp only [Exit.inBlock, Exit.then]
    refine bodyPost_ret (res2ck rfl _ _ _) rfl ?_
    exact ⟨gg, c, rs, _, d, L, rfl, hl, hz, hR5.out, hW5.out.ls, K5⟩
end Go.Proofs.YtaggciojccoidaaDoor
