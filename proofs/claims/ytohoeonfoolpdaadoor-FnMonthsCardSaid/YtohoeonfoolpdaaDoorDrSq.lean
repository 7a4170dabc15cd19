/- How series are drawn: numbers between -10000 and 12000, at most thirteen days. -/
import Derived.Test.YtohoeonfoolpdaaDoorDrHl
import Derived.Test.YtohoeonfoolpdaaDoorFg
import Derived.Deep.RegionWith
namespace Go.Proofs.YtohoeonfoolpdaaDoor
open Go.RowKit
set_option linter.unusedVariables false

set_option maxRecDepth 100000 in
set_option maxHeartbeats 4000000 in
theorem drawSeries (B p n : Nat) (w : World) (hp : p ≤ 700000) (hn : n ≤ 13) (hr : Rd w B p) :
    Calls Tryd.prog 23 #[.pointer (some ⟨B, 0, none⟩), .int .i64 (n : Int)] w (DrewL (-10000) 12000 n w B p (2 * n + 4)) := by
  have hBR := hr.lt
  obtain ⟨i0, hi, hz0, hz1, hz2⟩ := info_parts infoInt'
  go_enter Tryd.func23, Tryd.ntmps23
  go_wp2_with fail
  refine (pick_any B p 100 _ (by omega) (by omega) (hr.alloc _)).mono ?_
  rintro e wf ⟨xf, rfl, xf0, xf1, hrf, hof, hsf⟩
  have hWf : Only B w wf := ((Only.refl B w).alloc _).trans hof
  have hOf : OwnI wf w.heap.size (.slice (some ⟨w.heap.size, 0, none⟩) 0 0) [] := OwnI.only (World.ownsRow_made w #[] 0 (Nat.le_refl _) (by unfold maxLen; omega) rfl) hof hBR
  clear hof hsf hr
  go_wp2_with fail
  go_loopw [5, 6, 7] (fun v l i wr => ∃ (k : Nat) (zs : List Int) (y : Int), i = .int .i64 k ∧ l = .int .i64 y ∧ k ≤ n ∧ Hid (zs.length = k) ∧ Hid (Btw (-10000) 12000 zs) ∧ Hid (OwnI wr w.heap.size v zs) ∧ -10 * (k : Int) ≤ y ∧ y ≤ 100 + 20 * (k : Int) ∧ (∃ q : Nat, q ≤ p + 1 + 2 * k ∧ Hid (Rd wr B q)) ∧ Only B w wr) (fun _ _ i _ => n - (intOf i).toNat)
  case atStart =>
    exact ⟨0, [], xf, rfl, rfl, Nat.zero_le _, Lib.hid rfl, Lib.hid (fun x hx => by simp at hx), Lib.hid hOf, by omega, by omega, ⟨_, by omega, Lib.hid hrf⟩, hWf⟩
  case round =>
    obtain ⟨k, zs, y, rfl, rfl, hk, HL, HB, HO, hy0, hy1, ⟨q, hq, HR⟩, hW⟩ := hrel
    clear hOf hWf hrf
    have hsz := hW.size
    by_cases hlt : k < n
    · go_wp2_with fail
      refine (pick_any B q 8 _ (by omega) (by omega) HR.out).mono ?_
      rintro e w1 ⟨z, rfl, z0, z1, hr1, ho1, hs1⟩
      have HO1 := Lib.hid (HO.out.only ho1 hBR)
      have HR1 := Lib.hid hr1
      have hW1 := hW.trans ho1
      have hsz1 := hW1.size
      clear ho1 hs1 HO HR hW hsz hr1
      rcases (show z = 0 ∨ z = 1 ∨ z = 2 ∨ z = 3 ∨ z = 4 ∨ ((z == 0) = false ∧ (z == 1) = false ∧ (z == 2) = false ∧ (z == 3) = false ∧ (z == 4) = false) by
        by_cases h0 : z = 0 <;> by_cases h1 : z = 1 <;> by_cases h2 : z = 2 <;> by_cases h3 : z = 3 <;> by_cases h4 : z = 4 <;> simp_all) with rfl | rfl | rfl | rfl | rfl | ⟨n0, n1, n2, n3, n4⟩
      · have hown : w1.ownsRow w.heap.size 3 1 _ zs.length (zs.map (Value.int .i64)) := HO1.out
        go_wp2_with (at_builtin; refine wpList_append_own _ rfl _ _ 23 rfl w.heap.size 3 i0 (.int .i64 0) 1 8 Tryd.underlying23 hi hz0 hz1 hz2 rfl (by decide) _ _ _ rfl (hown.alloc _) ⟨w1.heap.size, 0, none⟩ 1 1 [.int .i64 (-9999 : Int)] rfl rfl ?c1a ?c2a ?c3a ?c4a ?c5a ?_)
        case c1a =>
          intro j u hj
          match j, hj with
          | 0, hj => simp at hj; subst hj; simp [Addr.add]
        case c2a => first | rfl | (intro u hu; simp at hu; subst hu; rfl)
        case c3a => unfold maxLen; have := HL.out; omega
        case c4a => have := HL.out; omega
        case c5a => simp; omega
        intro v' w9 hown' hgrow hnil
        have hrow : ∀ g, _ = some g → w.heap.size ≤ g := fun g hg => (hown.lt g hg).1
        have HN : Hid (OwnI w9 w.heap.size v' (zs ++ [(-9999 : Int)])) := Lib.hid (by unfold OwnI; simpa using hown')
        have HR9 := Lib.hid ((HR1.out.alloc _).grown2 hgrow hBR hrow)
        have HG := Lib.hid ((hW1.alloc _).grown2 hgrow hrow)
        have HB2 := Lib.hid (HB.out.snoc (show -10000 ≤ (-9999 : Int) by omega) (show (-9999 : Int) ≤ 12000 by omega))
        clear hown' hgrow hnil hown hrow hW1
        go_wp2
        go_roundw
        case rel => exact ⟨k + 1, zs ++ [(-9999 : Int)], y, by go_num, by go_num, by omega, Lib.hid (by have := HL.out; simp; omega), HB2, HN, by omega, by omega, ⟨_, by omega, HR9⟩, HG.out⟩
        case measure => simp [intOf]; omega
      · have hown : w1.ownsRow w.heap.size 3 1 _ zs.length (zs.map (Value.int .i64)) := HO1.out
        go_wp2_with (at_builtin; refine wpList_append_own _ rfl _ _ 23 rfl w.heap.size 3 i0 (.int .i64 0) 1 8 Tryd.underlying23 hi hz0 hz1 hz2 rfl (by decide) _ _ _ rfl (hown.alloc _) ⟨w1.heap.size, 0, none⟩ 1 1 [.int .i64 (-9999 : Int)] rfl rfl ?c1a ?c2a ?c3a ?c4a ?c5a ?_)
        case c1a =>
          intro j u hj
          match j, hj with
          | 0, hj => simp at hj; subst hj; simp [Addr.add]
        case c2a => first | rfl | (intro u hu; simp at hu; subst hu; rfl)
        case c3a => unfold maxLen; have := HL.out; omega
        case c4a => have := HL.out; omega
        case c5a => simp; omega
        intro v' w9 hown' hgrow hnil
        have hrow : ∀ g, _ = some g → w.heap.size ≤ g := fun g hg => (hown.lt g hg).1
        have HN : Hid (OwnI w9 w.heap.size v' (zs ++ [(-9999 : Int)])) := Lib.hid (by unfold OwnI; simpa using hown')
        have HR9 := Lib.hid ((HR1.out.alloc _).grown2 hgrow hBR hrow)
        have HG := Lib.hid ((hW1.alloc _).grown2 hgrow hrow)
        have HB2 := Lib.hid (HB.out.snoc (show -10000 ≤ (-9999 : Int) by omega) (show (-9999 : Int) ≤ 12000 by omega))
        clear hown' hgrow hnil hown hrow hW1
        go_wp2
        go_roundw
        case rel => exact ⟨k + 1, zs ++ [(-9999 : Int)], y, by go_num, by go_num, by omega, Lib.hid (by have := HL.out; simp; omega), HB2, HN, by omega, by omega, ⟨_, by omega, HR9⟩, HG.out⟩
        case measure => simp [intOf]; omega
      · go_wp2_with fail
        refine (pick_any B (q + 1) 100 _ (by omega) (by omega) HR1.out).mono ?_
        rintro e w2 ⟨x, rfl, x0, x1, hr2, ho2, hs2⟩
        have HO2 := Lib.hid (HO1.out.only ho2 hBR)
        have HR2 := Lib.hid hr2
        have hW2 := hW1.trans ho2
        have hsz2 := hW2.size
        clear ho2 hs2 HO1 HR1 hW1 hsz1 hr2
        have hown : w2.ownsRow w.heap.size 3 1 _ zs.length (zs.map (Value.int .i64)) := HO2.out
        go_wp2_with (at_builtin; refine wpList_append_own _ rfl _ _ 23 rfl w.heap.size 3 i0 (.int .i64 0) 1 8 Tryd.underlying23 hi hz0 hz1 hz2 rfl (by decide) _ _ _ rfl (hown.alloc _) ⟨w2.heap.size, 0, none⟩ 1 1 [.int .i64 x] rfl rfl ?c1a ?c2a ?c3a ?c4a ?c5a ?_)
        case c1a =>
          intro j u hj
          match j, hj with
          | 0, hj => simp at hj; subst hj; simp [Addr.add]
        case c2a => first | rfl | (intro u hu; simp at hu; subst hu; rfl)
        case c3a => unfold maxLen; have := HL.out; omega
        case c4a => have := HL.out; omega
        case c5a => simp; omega
        intro v' w9 hown' hgrow hnil
        have hrow : ∀ g, _ = some g → w.heap.size ≤ g := fun g hg => (hown.lt g hg).1
        have HN : Hid (OwnI w9 w.heap.size v' (zs ++ [x])) := Lib.hid (by unfold OwnI; simpa using hown')
        have HR9 := Lib.hid ((HR2.out.alloc _).grown2 hgrow hBR hrow)
        have HG := Lib.hid ((hW2.alloc _).grown2 hgrow hrow)
        have HB2 := Lib.hid (HB.out.snoc (show -10000 ≤ x by omega) (show x ≤ 12000 by omega))
        clear hown' hgrow hnil hown hrow hW2
        go_wp2
        go_roundw
        case rel => exact ⟨k + 1, zs ++ [x], x, by go_num, by go_num, by omega, Lib.hid (by have := HL.out; simp; omega), HB2, HN, by omega, by omega, ⟨_, by omega, HR9⟩, HG.out⟩
        case measure => simp [intOf]; omega
      · go_wp2_with fail
        refine (pick_any B (q + 1) 21 _ (by omega) (by omega) HR1.out).mono ?_
        rintro e w2 ⟨x, rfl, x0, x1, hr2, ho2, hs2⟩
        have HO2 := Lib.hid (HO1.out.only ho2 hBR)
        have HR2 := Lib.hid hr2
        have hW2 := hW1.trans ho2
        have hsz2 := hW2.size
        clear ho2 hs2 HO1 HR1 hW1 hsz1 hr2
        have hown : w2.ownsRow w.heap.size 3 1 _ zs.length (zs.map (Value.int .i64)) := HO2.out
        go_wp2_with (at_builtin; refine wpList_append_own _ rfl _ _ 23 rfl w.heap.size 3 i0 (.int .i64 0) 1 8 Tryd.underlying23 hi hz0 hz1 hz2 rfl (by decide) _ _ _ rfl (hown.alloc _) ⟨w2.heap.size, 0, none⟩ 1 1 [.int .i64 (y + x - 10)] rfl rfl ?c1a ?c2a ?c3a ?c4a ?c5a ?_)
        case c1a =>
          intro j u hj
          match j, hj with
          | 0, hj => simp at hj; subst hj; simp [Addr.add]
        case c2a => first | rfl | (intro u hu; simp at hu; subst hu; rfl)
        case c3a => unfold maxLen; have := HL.out; omega
        case c4a => have := HL.out; omega
        case c5a => simp; omega
        intro v' w9 hown' hgrow hnil
        have hrow : ∀ g, _ = some g → w.heap.size ≤ g := fun g hg => (hown.lt g hg).1
        have HN : Hid (OwnI w9 w.heap.size v' (zs ++ [(y + x - 10)])) := Lib.hid (by unfold OwnI; simpa using hown')
        have HR9 := Lib.hid ((HR2.out.alloc _).grown2 hgrow hBR hrow)
        have HG := Lib.hid ((hW2.alloc _).grown2 hgrow hrow)
        have HB2 := Lib.hid (HB.out.snoc (show -10000 ≤ (y + x - 10) by omega) (show (y + x - 10) ≤ 12000 by omega))
        clear hown' hgrow hnil hown hrow hW2
        go_wp2
        go_roundw
        case rel => exact ⟨k + 1, zs ++ [(y + x - 10)], (y + x - 10), by go_num, by go_num, by omega, Lib.hid (by have := HL.out; simp; omega), HB2, HN, by omega, by omega, ⟨_, by omega, HR9⟩, HG.out⟩
        case measure => simp [intOf]; omega
      · go_wp2_with fail
        refine (pick_any B (q + 1) 21 _ (by omega) (by omega) HR1.out).mono ?_
        rintro e w2 ⟨x, rfl, x0, x1, hr2, ho2, hs2⟩
        have HO2 := Lib.hid (HO1.out.only ho2 hBR)
        have HR2 := Lib.hid hr2
        have hW2 := hW1.trans ho2
        have hsz2 := hW2.size
        clear ho2 hs2 HO1 HR1 hW1 hsz1 hr2
        have hown : w2.ownsRow w.heap.size 3 1 _ zs.length (zs.map (Value.int .i64)) := HO2.out
        go_wp2_with (at_builtin; refine wpList_append_own _ rfl _ _ 23 rfl w.heap.size 3 i0 (.int .i64 0) 1 8 Tryd.underlying23 hi hz0 hz1 hz2 rfl (by decide) _ _ _ rfl (hown.alloc _) ⟨w2.heap.size, 0, none⟩ 1 1 [.int .i64 (y + x - 10)] rfl rfl ?c1a ?c2a ?c3a ?c4a ?c5a ?_)
        case c1a =>
          intro j u hj
          match j, hj with
          | 0, hj => simp at hj; subst hj; simp [Addr.add]
        case c2a => first | rfl | (intro u hu; simp at hu; subst hu; rfl)
        case c3a => unfold maxLen; have := HL.out; omega
        case c4a => have := HL.out; omega
        case c5a => simp; omega
        intro v' w9 hown' hgrow hnil
        have hrow : ∀ g, _ = some g → w.heap.size ≤ g := fun g hg => (hown.lt g hg).1
        have HN : Hid (OwnI w9 w.heap.size v' (zs ++ [(y + x - 10)])) := Lib.hid (by unfold OwnI; simpa using hown')
        have HR9 := Lib.hid ((HR2.out.alloc _).grown2 hgrow hBR hrow)
        have HG := Lib.hid ((hW2.alloc _).grown2 hgrow hrow)
        have HB2 := Lib.hid (HB.out.snoc (show -10000 ≤ (y + x - 10) by omega) (show (y + x - 10) ≤ 12000 by omega))
        clear hown' hgrow hnil hown hrow hW2
        go_wp2
        go_roundw
        case rel => exact ⟨k + 1, zs ++ [(y + x - 10)], (y + x - 10), by go_num, by go_num, by omega, Lib.hid (by have := HL.out; simp; omega), HB2, HN, by omega, by omega, ⟨_, by omega, HR9⟩, HG.out⟩
        case measure => simp [intOf]; omega
      · have hown : w1.ownsRow w.heap.size 3 1 _ zs.length (zs.map (Value.int .i64)) := HO1.out
        go_wp2_with (at_builtin; refine wpList_append_own _ rfl _ _ 23 rfl w.heap.size 3 i0 (.int .i64 0) 1 8 Tryd.underlying23 hi hz0 hz1 hz2 rfl (by decide) _ _ _ rfl (hown.alloc _) ⟨w1.heap.size, 0, none⟩ 1 1 [.int .i64 y] rfl rfl ?c1a ?c2a ?c3a ?c4a ?c5a ?_)
        case c1a =>
          intro j u hj
          match j, hj with
          | 0, hj => simp at hj; subst hj; simp [Addr.add]
        case c2a => first | rfl | (intro u hu; simp at hu; subst hu; rfl)
        case c3a => unfold maxLen; have := HL.out; omega
        case c4a => have := HL.out; omega
        case c5a => simp; omega
        intro v' w9 hown' hgrow hnil
        have hrow : ∀ g, _ = some g → w.heap.size ≤ g := fun g hg => (hown.lt g hg).1
        have HN : Hid (OwnI w9 w.heap.size v' (zs ++ [y])) := Lib.hid (by unfold OwnI; simpa using hown')
        have HR9 := Lib.hid ((HR1.out.alloc _).grown2 hgrow hBR hrow)
        have HG := Lib.hid ((hW1.alloc _).grown2 hgrow hrow)
        have HB2 := Lib.hid (HB.out.snoc (show -10000 ≤ y by omega) (show y ≤ 12000 by omega))
        clear hown' hgrow hnil hown hrow hW1
        go_wp2
        go_roundw
        case rel => exact ⟨k + 1, zs ++ [y], y, by go_num, by go_num, by omega, Lib.hid (by have := HL.out; simp; omega), HB2, HN, by omega, by omega, ⟨_, by omega, HR9⟩, HG.out⟩
        case measure => simp [intOf]; omega
    · obtain rfl : k = n := by omega
      by_cases h0 : k = 0
      · subst h0
        have hg0 : decide ((0 : Int) < ((0 : Nat) : Int)) = false := by simp
        go_wp2
        go_ret
        exact ⟨_, zs, q, rfl, HL.out, HB.out, HO.out, by omega, HR.out, hW⟩
      · have hg0 : decide ((0 : Int) < (k : Int)) = true := by simp; omega
        obtain rfl : zs.length = k := HL.out
        clear HL
        obtain ⟨g, cap, rfl, hb, hlt', hcell⟩ := HO.out.at_ (by omega)
        go_wp2_with fail
        refine (pick_any B q 24 _ (by omega) (by omega) HR.out).mono ?_
        rintro e w1 ⟨y2, rfl, y20, y21, hr1, ho1, hs1⟩
        have hBg : g ≠ B := by omega
        have HO1 := Lib.hid (HO.out.only ho1 hBR)
        have hW1 := hW.trans ho1
        rcases (show y2 = 0 ∨ (y2 == 0) = false by by_cases h : y2 = 0 <;> simp [h]) with rfl | hy
        · clear y20 y21 hcell
          go_wp2_with fail
          refine (pick_any B (q + 1) zs.length _ (by omega) (by omega) hr1).mono ?_
          rintro e w2 ⟨t, rfl, t0, t1, hr2, ho2, hs2⟩
          go_wp2_with fail
          refine (pick_any B (q + 2) 4 _ (by omega) (by omega) (hr2.alloc _)).mono ?_
          rintro e w3 ⟨s, rfl, s0, s1, hr3, ho3, hs3⟩
          obtain ⟨u, hu, cu⟩ := newCellAny [-1000, -999, 10999, 11000] ho3 hr2.lt s s0 s1
          have u0 : -10000 ≤ u := by simp at hu; omega
          have u1 : u ≤ 12000 := by simp at hu; omega
          clear hu
          have HO3 := Lib.hid ((HO1.out.only ho2 hBR).only ((Only.refl B w2).alloc _ |>.trans ho3) hBR)
          obtain ⟨g', cap', hv', hb', hlt3, hcell3⟩ := HO3.out.at_ (by omega)
          injection hv' with hv1 _ hv2
          injection hv1 with hv1
          injection hv1 with hv1
          subst hv1
          subst hv2
          have htk : t.toNat < zs.length := by omega
          obtain ⟨d1, d2⟩ := hcell3 t.toNat (by omega)
          have hW3 := (hW1.trans ho2).alloc (.cells (([-1000, -999, 10999, 11000] : List Int).map (Value.int .i64)).toArray 3) |>.trans ho3
          have t2 : t < (zs.length : Int) := t1
          have HS := Lib.hid (HO3.out.stored t.toNat u)
          have HR3 := Lib.hid hr3
          clear hcell3 hr1 ho1 hs1 hr2 ho2 hs2 ho3 hs3 hW1 hW hr3
          go_wp2
          go_ret
          exact ⟨_, zs.set t.toNat u, q + 3, rfl, by rw [List.length_set], HB.out.set _ u0 u1, by have := HS.out; rw [List.length_set] at this; exact this, by omega, HR3.out.setCell (by omega) _, hW3.setCell hb _⟩
        · go_wp2
          go_ret
          exact ⟨_, zs, q + 1, rfl, rfl, HB.out, HO1.out, by omega, hr1, hW1⟩
set_option maxHeartbeats 400000 in
theorem drawSome (B p : Nat) (w : World) (hp : p ≤ 800000) (hr : Rd w B p) :
    Calls Tryd.prog 24 #[.pointer (some ⟨B, 0, none⟩)] w fun e w' => ∃ n q : Nat, e = .returned (.int .i64 (n : Int)) ∧ n ≤ 13 ∧ q ≤ p + 2 ∧ Rd w' B q ∧ Only B w w' := by
  go_enter Tryd.func24, Tryd.ntmps24
  go_wp2_with fail
  refine (pick_any B p 16 _ (by omega) (by omega) hr).mono ?_
  rintro e w1 ⟨x, rfl, x0, x1, hr1, ho1, hs1⟩
  rcases (show x = 0 ∨ (x == 0) = false by by_cases h : x = 0 <;> simp [h]) with rfl | hx
  · go_wp2_with fail
    refine (pick_any B (p + 1) 3 _ (by omega) (by omega) (hr1.alloc _)).mono ?_
    rintro e w2 ⟨y, rfl, y0, y1, hr2, ho2, hs2⟩
    obtain ⟨u, hu, cu⟩ := newCellAny [0, 12, 13] ho2 hr1.lt y y0 y1
    have u0 : 0 ≤ u := by simp at hu; omega
    have u1 : u ≤ 13 := by simp at hu; omega
    clear hu
    obtain ⟨n, rfl⟩ := Int.eq_ofNat_of_zero_le u0
    go_wp2
    go_ret
    exact ⟨n, p + 2, rfl, by omega, by omega, hr2, (ho1.alloc _).trans ho2⟩
  · go_wp2_with fail
    refine (pick_any B (p + 1) 12 _ (by omega) (by omega) hr1).mono ?_
    rintro e w2 ⟨y, rfl, y0, y1, hr2, ho2, hs2⟩
    obtain ⟨n, rfl⟩ := Int.eq_ofNat_of_zero_le y0
    go_wp2
    go_ret
    exact ⟨n + 1, p + 2, retI (by omega), by omega, by omega, hr2, ho1.trans ho2⟩
/-- A list in a block that is not the reader's. -/
def LsN (B : Nat) (w : World) (a : Option Addr) (zs : List Int) : Prop := Ls w a zs ∧ (zs = [] ∨ ∀ b o, a = some ⟨b, o, none⟩ → b ≠ B)
theorem LsN.onlyo {B : Nat} {w w' : World} {a : Option Addr} {zs : List Int} (h : LsN B w a zs) (ho : Only B w w') : LsN B w' a zs := by
  refine ⟨?_, h.2⟩
  rcases h.2 with h2 | h2
  · exact .inl h2
  · rcases h.1 with h1 | ⟨b, off, ha, hb, hc⟩
    · exact .inl h1
    · exact .inr ⟨b, off, ha, Nat.lt_of_lt_of_le hb ho.size, fun i hi => (ho.cell b _ hb (h2 b off ha)).trans (hc i hi)⟩
theorem LsN.alloc {B : Nat} {w : World} {a : Option Addr} {zs : List Int} (h : LsN B w a zs) (o : Obj) : LsN B (w.alloc o) a zs := ⟨h.1.alloc o, h.2⟩
theorem LsN.drew {B : Nat} {w : World} {a : Option Addr} {zs : List Int} (h : LsN B w a zs) : LsN B w.drew a zs := h
theorem OwnI.lsn {B : Nat} {w : World} {base : Nat} {v : Value} {zs : List Int} (h : OwnI w base v zs) (hB : B < base) : ∃ a c, v = .slice a zs.length c ∧ zs.length ≤ c ∧ LsN B w a zs := by
  by_cases h0 : zs = []
  · subst h0
    rcases id h.2 with ⟨rfl, h0⟩ | ⟨g, cap, cur, rfl, _, hc, _⟩
    · exact ⟨none, 0, rfl, by simp, .inl rfl, .inl rfl⟩
    · exact ⟨_, _, rfl, by omega, .inl rfl, .inl rfl⟩
  · obtain ⟨g, cap, hv, hb, hl⟩ := h.form (List.length_pos_iff.2 h0)
    subst hv
    refine ⟨_, _, rfl, ?_, (Ls.own h).2, .inr fun b o e => ?_⟩
    · rcases id h.2 with ⟨hn, _⟩ | ⟨g', cap', cur, hn, _, hc, _⟩
      · cases hn
      · injection hn with _ _ hn; subst hn; omega
    · injection e with e; injection e with e; omega
theorem mem4 {j : Int} (h : j ∈ ([-1, 0, 19999, 20000] : List Int)) : -1 ≤ j ∧ j ≤ 20000 := by simp at h; omega
theorem newCellAnyD {w w' : World} (l : List Int) {T B : Nat} (ho : Only B (w.alloc (.cells (l.map (Value.int .i64)).toArray T)).drew w') (hB : B < w.heap.size) (t : Int) (h0 : 0 ≤ t) (h1 : t < l.length) :
    ∃ u : Int, u ∈ l ∧ w'.cell? ⟨w.heap.size, t.toNat, none⟩ = some (.int .i64 u) := newCellAny l (w := w) (T := T) (⟨ho.os, ho.tape, ho.output, ho.size, ho.block⟩ : Only B (w.alloc (.cells (l.map (Value.int .i64)).toArray T)) w') hB t h0 h1
theorem pick4 {i j : Int} (h0 : 0 ≤ i) (h1 : i < 4) (h : #[Value.int .i64 (-1), .int .i64 0, .int .i64 19999, .int .i64 20000][i.toNat]? = some (.int .i64 j)) : -1 ≤ j ∧ j ≤ 20000 := by
  have : i = 0 ∨ i = 1 ∨ i = 2 ∨ i = 3 := by omega
  rcases this with rfl | rfl | rfl | rfl
  all_goals
    simp at h
    omega
theorem res4 {fn : Func} {t u v x : Tmp} (h : fn.results = #[.tmp t, .tmp u, .tmp v, .tmp x]) (tmps : Array Value) (P : Program) (w : World) :
    (results fn tmps).run P w = .ok (.tuple #[tmps.getD t undef, tmps.getD u undef, tmps.getD v undef, tmps.getD x undef]) w := by
  simp [results, h]
/-- A drawn series. -/
def DrewSq (w : World) (e : Ending) (w' : World) : Prop :=
  ∃ (a : Option Addr) (c : Nat) (zs : List Int), e = .returned (.slice a zs.length c) ∧ zs.length ≤ 13 ∧ zs.length ≤ c ∧ Btw (-10000) 12000 zs ∧ Ls w' a zs ∧ Keep w w'
theorem OwnI.lsc {w : World} {base : Nat} {v : Value} {zs : List Int} (h : OwnI w base v zs) : ∃ a c, v = .slice a zs.length c ∧ zs.length ≤ c ∧ Ls w a zs := by
  rcases id h.2 with ⟨rfl, h0⟩ | ⟨g, cap, cur, rfl, _, hc, _⟩
  · refine ⟨none, 0, by rw [h0], by omega, .inl (List.eq_nil_of_length_eq_zero h0)⟩
  · exact ⟨_, _, rfl, by omega, (Ls.own h).2⟩
end Go.Proofs.YtohoeonfoolpdaaDoor
