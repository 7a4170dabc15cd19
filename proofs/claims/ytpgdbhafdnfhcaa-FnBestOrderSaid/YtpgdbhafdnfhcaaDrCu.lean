/- How prices and the arguments of CutsCost are drawn. -/
import Derived.Test.YtpgdbhafdnfhcaaDrCt
namespace Go.Proofs.Ytpgdbhafdnfhcaa
open Go.RowKit
set_option linter.unusedVariables false

set_option maxRecDepth 100000 in
set_option maxHeartbeats 4000000 in
theorem drawCutsN (B p : Nat) (n0 : Int) (w : World) (hp : p ≤ 700000) (h0 : 0 ≤ n0) (h8 : n0 ≤ 13) (hr : Rd w B p) :
    Calls Try.prog 69 #[.pointer (some ⟨B, 0, none⟩), .int .i64 n0] w (DrewFl 0 13 13 w B p 20) := by
  have hBR := hr.lt
  obtain ⟨n, rfl⟩ := Int.eq_ofNat_of_zero_le (show 0 ≤ n0 by omega)
  obtain ⟨i0, hi, hz0, hz1, hz2⟩ := info_parts infoInt'
  have hOf : OwnI (w.alloc (.cells #[] 3)) w.heap.size (.slice (some ⟨w.heap.size, 0, none⟩) 0 0) [] := World.ownsRow_made w #[] 0 (Nat.le_refl _) (by unfold maxLen; omega) rfl
  go_enter Try.func69, Try.ntmps69
  go_wp2_with fail
  go_loopw [5, 6] (fun v i wr => ∃ (k : Nat) (zs : List Int), i = .int .i64 k ∧ 1 ≤ k ∧ (k ≤ n ∨ k = 1) ∧ Hid (zs.length + 1 ≤ k) ∧ Hid (Btw 0 13 zs) ∧ Hid (OwnI wr w.heap.size v zs) ∧ (∃ q : Nat, q ≤ p + k ∧ Hid (Rd wr B q)) ∧ Only B w wr) (fun _ i _ => n - (intOf i).toNat)
  case atStart =>
    exact ⟨1, [], rfl, by omega, by omega, Lib.hid (by simp), Lib.hid (fun x hx => by simp at hx), Lib.hid hOf, ⟨p, by omega, Lib.hid (hr.alloc _)⟩, (Only.refl B w).alloc _⟩
  case round =>
    obtain ⟨k, zs, rfl, hk1, hk, HL, HB, HO, ⟨q, hq, HR⟩, hW⟩ := hrel
    clear hOf hr
    have hsz := hW.size
    by_cases hlt : k < n
    · go_wp2_with fail
      refine (pick_any B q 3 _ (by omega) (by omega) HR.out).mono ?_
      rintro e w1 ⟨z, rfl, z0, z1, hr1, ho1, hs1⟩
      have HO1 := Lib.hid (HO.out.only ho1 hBR)
      have HR1 := Lib.hid hr1
      have hW1 := hW.trans ho1
      have hsz1 := hW1.size
      clear ho1 hs1 HO HR hW hsz hr1
      rcases (show z = 0 ∨ (z == 0) = false by by_cases h : z = 0 <;> simp [h]) with rfl | hz
      · have hown : w1.ownsRow w.heap.size 3 1 _ zs.length (zs.map (Value.int .i64)) := HO1.out
        go_wp2_with (at_builtin; refine wpList_append_own _ rfl _ _ 43 rfl w.heap.size 3 i0 (.int .i64 0) 1 8 Try.underlying43 hi hz0 hz1 hz2 rfl (by decide) _ _ _ rfl (hown.alloc _) ⟨w1.heap.size, 0, none⟩ 1 1 [.int .i64 (((k : Nat) : Int))] rfl rfl ?c1a ?c2a ?c3a ?c4a ?c5a ?_)
        try case c1a =>
          intro j u hj
          match j, hj with
          | 0, hj => simp at hj; subst hj; simp [Addr.add]
        try case c2a => first | rfl | (intro u hu; simp at hu; rcases hu with rfl | rfl | rfl <;> rfl) | (intro u hu; simp at hu; subst hu; rfl)
        case c3a => unfold maxLen; have := HL.out; omega
        case c4a => have := HL.out; omega
        case c5a => have := HL.out; first | omega | (simp; omega)
        intro v' w9 hown' hgrow hnil
        have hrow : ∀ g, _ = some g → w.heap.size ≤ g := fun g hg => (hown.lt g hg).1
        have HN : Hid (OwnI w9 w.heap.size v' (zs ++ [(((k : Nat) : Int))])) := Lib.hid (by unfold OwnI; simpa using hown')
        have HR9 := Lib.hid ((HR1.out.alloc _).grown2 hgrow hBR hrow)
        have HG := Lib.hid ((hW1.alloc _).grown2 hgrow hrow)
        clear hown' hgrow hnil hown hrow
        have HB2 := Lib.hid (HB.out.snoc (show 0 ≤ ((k : Nat) : Int) by omega) (show ((k : Nat) : Int) ≤ 13 by omega))
        clear hW1
        go_wp2
        go_roundw
        case rel => exact ⟨k + 1, zs ++ [((k : Nat) : Int)], by go_num, by omega, by omega, Lib.hid (by have := HL.out; simp; omega), HB2, HN, ⟨_, by omega, HR9⟩, HG.out⟩
        case measure => simp [intOf]; omega
      · go_wp2
        go_roundw
        case rel => exact ⟨k + 1, zs, by go_num, by omega, by omega, Lib.hid (by have := HL.out; omega), HB, HO1, ⟨_, by omega, HR1⟩, hW1⟩
        case measure => simp [intOf]; omega
    · have hnk : n ≤ k := by omega
      go_wp2_with fail
      refine (pick_any B q 20 _ (by omega) (by omega) HR.out).mono ?_
      rintro e w1 ⟨z, rfl, z0, z1, hr1, ho1, hs1⟩
      have HO1 := Lib.hid (HO.out.only ho1 hBR)
      have HR1 := Lib.hid hr1
      have hW1 := hW.trans ho1
      have hsz1 := hW1.size
      clear ho1 hs1 HO HR hW hsz hr1
      rcases (show z = 0 ∨ z = 1 ∨ ((z == 0) = false ∧ (z == 1) = false) by
        by_cases h0 : z = 0 <;> by_cases h1 : z = 1 <;> simp_all) with rfl | rfl | ⟨n0, n1⟩
      · have hown : w1.ownsRow w.heap.size 3 1 _ zs.length (zs.map (Value.int .i64)) := HO1.out
        go_wp2_with (at_builtin; refine wpList_append_own _ rfl _ _ 43 rfl w.heap.size 3 i0 (.int .i64 0) 1 8 Try.underlying43 hi hz0 hz1 hz2 rfl (by decide) _ _ _ rfl (hown.alloc _) ⟨w1.heap.size, 0, none⟩ 1 1 [.int .i64 (((n : Nat) : Int))] rfl rfl ?c1a ?c2a ?c3a ?c4a ?c5a ?_)
        try case c1a =>
          intro j u hj
          match j, hj with
          | 0, hj => simp at hj; subst hj; simp [Addr.add]
        try case c2a => first | rfl | (intro u hu; simp at hu; rcases hu with rfl | rfl | rfl <;> rfl) | (intro u hu; simp at hu; subst hu; rfl)
        case c3a => unfold maxLen; have := HL.out; omega
        case c4a => have := HL.out; omega
        case c5a => have := HL.out; first | omega | (simp; omega)
        intro v' w9 hown' hgrow hnil
        have hrow : ∀ g, _ = some g → w.heap.size ≤ g := fun g hg => (hown.lt g hg).1
        have HN : Hid (OwnI w9 w.heap.size v' (zs ++ [(((n : Nat) : Int))])) := Lib.hid (by unfold OwnI; simpa using hown')
        have HR9 := Lib.hid ((HR1.out.alloc _).grown2 hgrow hBR hrow)
        have HG := Lib.hid ((hW1.alloc _).grown2 hgrow hrow)
        clear hown' hgrow hnil hown hrow
        go_wp2
        go_ret
        exact drewFl hBR HN.out (by have := HL.out; simp; omega) (HB.out.snoc (by omega) (by omega)) (by omega) HR9.out HG.out
      · have hown : w1.ownsRow w.heap.size 3 1 _ zs.length (zs.map (Value.int .i64)) := HO1.out
        go_wp2_with (at_builtin; refine wpList_append_own _ rfl _ _ 43 rfl w.heap.size 3 i0 (.int .i64 0) 1 8 Try.underlying43 hi hz0 hz1 hz2 rfl (by decide) _ _ _ rfl (hown.alloc _) ⟨w1.heap.size, 0, none⟩ 1 1 [.int .i64 (1)] rfl rfl ?c1a ?c2a ?c3a ?c4a ?c5a ?_)
        try case c1a =>
          intro j u hj
          match j, hj with
          | 0, hj => simp at hj; subst hj; simp [Addr.add]
        try case c2a => first | rfl | (intro u hu; simp at hu; rcases hu with rfl | rfl | rfl <;> rfl) | (intro u hu; simp at hu; subst hu; rfl)
        case c3a => unfold maxLen; have := HL.out; omega
        case c4a => have := HL.out; omega
        case c5a => have := HL.out; first | omega | (simp; omega)
        intro v' w9 hown' hgrow hnil
        have hrow : ∀ g, _ = some g → w.heap.size ≤ g := fun g hg => (hown.lt g hg).1
        have HN : Hid (OwnI w9 w.heap.size v' (zs ++ [(1)])) := Lib.hid (by unfold OwnI; simpa using hown')
        have HR9 := Lib.hid ((HR1.out.alloc _).grown2 hgrow hBR hrow)
        have HG := Lib.hid ((hW1.alloc _).grown2 hgrow hrow)
        clear hown' hgrow hnil hown hrow
        go_wp2
        go_ret
        exact drewFl hBR HN.out (by have := HL.out; simp; omega) (HB.out.snoc (by omega) (by omega)) (by omega) HR9.out HG.out
      · go_wp2
        go_ret
        exact drewFl hBR HO1.out (by have := HL.out; omega) HB.out (by omega) HR1.out hW1
theorem memP {j : Int} (h : j ∈ ([-1, 0, 9999, 10000] : List Int)) : -1 ≤ j ∧ j ≤ 10000 := by simp at h; omega
set_option maxRecDepth 100000 in
set_option maxHeartbeats 1000000 in
theorem drawPrice (B p : Nat) (w : World) (hp : p ≤ 700000) (hr : Rd w B p) :
    Calls Try.prog 70 #[.pointer (some ⟨B, 0, none⟩)] w fun e w' => ∃ (x : Int) (q : Nat), e = .returned (.int .i64 x) ∧ (-1 ≤ x ∧ x ≤ 10000) ∧ q ≤ p + 2 ∧ Rd w' B q ∧ Only B w w' := by
  have hBR := hr.lt
  go_enter Try.func70, Try.ntmps70
  go_wp2_with fail
  refine (pick_any B p 16 _ (by omega) (by omega) hr).mono ?_
  rintro e w1 ⟨x, rfl, x0, x1, hr1, ho1, hs1⟩
  rcases (show x = 0 ∨ (x == 0) = false by by_cases h : x = 0 <;> simp [h]) with rfl | hx
  · go_wp2_with fail
    refine (pick_any B (p + 1) 4 _ (by omega) (by omega) (hr1.alloc _)).mono ?_
    rintro e w2 ⟨y, rfl, y0, y1, hr2, ho2, hs2⟩
    obtain ⟨u, hu, cu⟩ := newCellAny [-1, 0, 9999, 10000] ho2 hr1.lt y y0 y1
    have hu2 := memP hu
    clear hu
    go_wp2
    go_ret
    exact ⟨u, p + 2, rfl, hu2, by omega, hr2, (ho1.alloc _).trans ho2⟩
  · go_wp2_with fail
    refine (pick_any B (p + 1) 80 _ (by omega) (by omega) hr1).mono ?_
    rintro e w2 ⟨y, rfl, y0, y1, hr2, ho2, hs2⟩
    go_wp2
    go_ret
    exact ⟨y, p + 2, rfl, ⟨by omega, by omega⟩, by omega, hr2, ho1.trans ho2⟩
theorem res3c {fn : Func} {t u v : Tmp} (h : fn.results = #[.tmp t, .tmp u, .tmp v]) (tmps : Array Value) (P : Program) (w : World) :
    (results fn tmps).run P w = .ok (.tuple #[tmps.getD t undef, tmps.getD u undef, tmps.getD v undef]) w := by
  simp [results, h]
set_option maxRecDepth 100000 in
set_option maxHeartbeats 1000000 in
theorem drawCutsCost (a0 : Option Addr) (len cap : Nat) (w : World) (ha : CodeArg w a0 len cap) :
    Calls Try.prog 27 #[.slice a0 len cap] w fun e w' => ∃ (a b : Option Addr) (c d : Nat) (zs cs : List Int) (x : Int), e = .returned (.tuple #[.slice a zs.length c, .slice b cs.length d, .int .i64 x]) ∧ (zs.length ≤ 11 ∧ zs.length ≤ c) ∧ (cs.length ≤ 13 ∧ cs.length ≤ d) ∧ Ls w' a zs ∧ Ls w' b cs ∧ (-1 ≤ x ∧ x ≤ 10000) ∧ Keep w w' := by
  go_enter Try.func27, Try.ntmps27
  go_wp2_with fail
  refine (open_any a0 len cap _ ha).mono ?_
  rintro e w1 ⟨rfl, hr1, hb, hs⟩
  have hb : Keep w w1 := hb
  go_wp2_with fail
  refine (drawFull _ 0 _ (by omega) hr1).mono ?_
  rintro e w2 ⟨a, c, zs, q, rfl, hl, hc, hB, hL, hq, hr2, ho2⟩
  go_wp2_with fail
  refine (drawCutsN _ q zs.length _ (by omega) (by omega) (by omega) hr2).mono ?_
  rintro e w3 ⟨b, d, cs, q3, rfl, hl3, hc3, hB3, hL3, hq3, hr3, ho3⟩
  go_wp2_with fail
  refine (drawPrice _ q3 _ (by omega) hr3).mono ?_
  rintro e w4 ⟨x, q4, rfl, hx, hq4, hr4, ho4⟩
  have hk : Keep w w4 := Only.keep ((ho2.trans ho3).trans ho4) hb (Nat.le_refl _)
  have hA := ((hL.onlyo ho3).onlyo ho4).1
  have hC := (hL3.onlyo ho4).1
  go_wp2
  try simp only [Exit.inBlock, Exit.then]
  refine bodyPost_ret (res3c rfl _ _ _) rfl ?_
  exact ⟨a, b, c, d, zs, cs, x, rfl, ⟨hl, hc⟩, ⟨hl3, hc3⟩, hA, hC, hx, hk⟩
end Go.Proofs.Ytpgdbhafdnfhcaa
