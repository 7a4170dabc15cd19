/- How a series and flags are drawn. -/
import Derived.Test.YtaghgapkjdkkfaaDrSq
import Derived.Test.YtaghgapkjdkkfaaMf
import Derived.Deep.QuietTactic
import Derived.BigQuiet
namespace Go.Proofs.Ytaghgapkjdkkfaa
open Go.RowKit
set_option linter.unusedVariables false

theorem LsN.grown {B base : Nat} {w w' : World} {row : Option Nat} {a : Option Addr} {zs : List Int} (h : LsN B w a zs) (hb : ∀ b o, a = some ⟨b, o, none⟩ → b < base) (hg : w.grownBy w' row) (hr : ∀ k, row = some k → base ≤ k) : LsN B w' a zs := by
  refine ⟨?_, h.2⟩
  rcases h.1 with h1 | ⟨b, off, ha, hlt, hc⟩
  · exact .inl h1
  · exact .inr ⟨b, off, ha, Nat.lt_of_lt_of_le hlt hg.size, fun i hi => (World.cell?_of_block (hg.block b hlt (fun e => by have := hr b e.symm; have := hb b off ha; omega))).trans (hc i hi)⟩
theorem Ls.set_other {base g : Nat} {w : World} {a : Option Addr} {zs : List Int} (h : Ls w a zs) (hl : Lo base a zs.length) (hg : base ≤ g) (j : Nat) (u : Value) : Ls (w.setCell ⟨g, j, none⟩ u) a zs := by
  rcases hl with hl | hl
  · exact .inl (List.eq_nil_of_length_eq_zero hl)
  · rcases h with h1 | ⟨b, off, ha, hlt, hc⟩
    · exact .inl h1
    · refine .inr ⟨b, off, ha, by simpa [World.setCell] using hlt, fun i hi => ?_⟩
      have hb := hl b off ha
      rw [World.cell?_setCell_other _ _ _ _ (by intro h'; simp only [Addr.mk.injEq] at h'; omega)]
      exact hc i hi
theorem Ls.take' {w : World} {a : Option Addr} {zs : List Int} (h : Ls w a zs) (k : Nat) : Ls w a (zs.take k) := by
  rcases h with rfl | ⟨b, off, ha, hb, hc⟩
  · left; simp
  · right
    refine ⟨b, off, ha, hb, fun i hi => ?_⟩
    have h1 : i < k ∧ i < zs.length := by rw [List.length_take] at hi; omega
    rw [hc i h1.2]
    simp [List.getD_eq_getElem?_getD, h1.1]
theorem mul01 {x y : Int} (h0 : 0 ≤ x) (h1 : x < 2) (h2 : 0 ≤ y) (h3 : y < 16) : 0 ≤ x * y ∧ x * y ≤ 15 := by
  have : x = 0 ∨ x = 1 := by omega
  rcases this with rfl | rfl <;> omega
set_option maxRecDepth 100000 in
set_option maxHeartbeats 4000000 in
theorem drawFlagsClean (a0 : Option Addr) (len cap : Nat) (w : World) (ha : CodeArg w a0 len cap) :
    Calls Try.prog 21 #[.slice a0 len cap] w fun e w' => ∃ (a b : Option Addr) (c d : Nat) (zs fs : List Int), e = .returned (.tuple #[.slice a zs.length c, .slice b fs.length d]) ∧
      (zs.length ≤ 13 ∧ zs.length ≤ c) ∧ (fs.length ≤ 13 ∧ fs.length ≤ d) ∧ Btw (-10000) 12000 zs ∧ Ls w' a zs ∧ Ls w' b fs ∧ Keep w w' := by
  obtain ⟨i0, hi, hz0, hz1, hz2⟩ := info_parts infoInt'
  go_enter Try.func21, Try.ntmps21
  go_wp2_with fail
  refine (open_any a0 len cap _ ha).mono ?_
  rintro e w1 ⟨rfl, hr1, hb, hs⟩
  have hb : Keep w w1 := hb
  go_wp2_with fail
  refine (drawSome _ 0 _ (by omega) hr1).mono ?_
  rintro e w2 ⟨n, q, rfl, hn, hq, hr2, ho2⟩
  go_wp2_with fail
  refine (drawSeries _ q n _ (by omega) hn hr2).mono ?_
  rintro e w3 ⟨v, zs, q3, rfl, hl, hB, hO, hq3, hr3, ho3⟩
  obtain ⟨a, c, rfl, hc, hL⟩ := hO.lsn hr2.lt
  have hl13 : zs.length ≤ 13 := by omega
  have hlo := hL.1.lo
  clear hl hO
  have hk3 : Keep w w3 := Only.keep (ho2.trans ho3) hb (Nat.le_refl _)
  have hBR := hr3.lt
  have hB0 := hk3.size
  have HB := Lib.hid hB
  clear hB hr1 hr2 hs hb ho2 ho3
  go_wp2_with fail
  go_loopw [6, 7] (fun v i wr => ∃ (k : Nat) (fs : List Int), i = .int .i64 k ∧ k ≤ zs.length ∧ Hid (fs.length = k) ∧ Hid (OwnI wr w3.heap.size v fs) ∧ (∃ q : Nat, q ≤ q3 + 2 * k ∧ Hid (Rd wr w.heap.size q)) ∧ Only w.heap.size w3 wr) (fun _ i _ => zs.length - (intOf i).toNat)
  case atStart =>
    exact ⟨0, [], rfl, Nat.zero_le _, Lib.hid rfl, Lib.hid (World.ownsRow_made w3 #[] 0 (Nat.le_refl _) (by unfold maxLen; omega) rfl), ⟨_, by omega, Lib.hid (hr3.alloc _)⟩, (Only.refl _ w3).alloc _⟩
  case round =>
    obtain ⟨k, fs, rfl, hk, HL, HO, ⟨q, hq', HR⟩, hW⟩ := hrel
    have hsz := hW.size
    clear hr3
    by_cases hlt : k < zs.length
    · go_wp2_with fail
      refine (pick_any _ q 2 _ (by omega) (by omega) HR.out).mono ?_
      rintro e w4 ⟨x, rfl, x0, x1, hr4, ho4, hs4⟩
      go_wp2_with fail
      refine (pick_any _ (q + 1) 16 _ (by omega) (by omega) hr4).mono ?_
      rintro e w5 ⟨y, rfl, y0, y1, hr5, ho5, hs5⟩
      have HO5 := Lib.hid ((HO.out.only ho4 hBR).only ho5 hBR)
      have HR5 := Lib.hid hr5
      have hW5 := (hW.trans ho4).trans ho5
      have hsz5 := hW5.size
      obtain ⟨m0, m1⟩ := mul01 x0 x1 y0 y1
      clear hr4 hr5 ho4 ho5 hs4 hs5 HO HR hW hsz
      rcases (show x = 0 ∨ x = 1 by omega) with rfl | rfl
      · clear m0 m1 x0 x1
        have hown : w5.ownsRow w3.heap.size 3 1 _ fs.length (fs.map (Value.int .i64)) := HO5.out
        go_wp2_with (at_builtin; refine wpList_append_own _ rfl _ _ 23 rfl w3.heap.size 3 i0 (.int .i64 0) 1 8 Try.underlying23 hi hz0 hz1 hz2 rfl (by decide) _ _ _ rfl (hown.alloc _) ⟨w5.heap.size, 0, none⟩ 1 1 [.int .i64 0] rfl rfl ?c1a ?c2a ?c3a ?c4a ?c5a ?_)
        case c1a =>
          intro j u' hj
          match j, hj with
          | 0, hj => simp at hj; subst hj; simp [Addr.add]
        case c2a => first | rfl | (intro u hu; simp at hu; subst hu; rfl)
        case c3a => unfold maxLen; have := HL.out; omega
        case c4a => have := HL.out; omega
        case c5a => simp; omega
        intro v' w9 hown' hgrow hnil
        have hrow : ∀ g, _ = some g → w3.heap.size ≤ g := fun g hg => (hown.lt g hg).1
        have HN : Hid (OwnI w9 w3.heap.size v' (fs ++ [0])) := Lib.hid (by unfold OwnI; simpa using hown')
        have HR9 := Lib.hid ((HR5.out.alloc _).grown2 hgrow hBR hrow)
        have HG := Lib.hid ((hW5.alloc _).grown2 hgrow hrow)
        clear hown' hgrow hnil hown hrow hW5
        go_wp2
        go_roundw
        case rel => exact ⟨k + 1, fs ++ [0], by go_num, by omega, Lib.hid (by have := HL.out; simp; omega), HN, ⟨_, by omega, HR9⟩, HG.out⟩
        case measure => simp [intOf]; omega
      · clear m0 m1 x0 x1
        have hown : w5.ownsRow w3.heap.size 3 1 _ fs.length (fs.map (Value.int .i64)) := HO5.out
        go_wp2_with (at_builtin; refine wpList_append_own _ rfl _ _ 23 rfl w3.heap.size 3 i0 (.int .i64 0) 1 8 Try.underlying23 hi hz0 hz1 hz2 rfl (by decide) _ _ _ rfl (hown.alloc _) ⟨w5.heap.size, 0, none⟩ 1 1 [.int .i64 y] rfl rfl ?c1a ?c2a ?c3a ?c4a ?c5a ?_)
        case c1a =>
          intro j u' hj
          match j, hj with
          | 0, hj => simp at hj; subst hj; simp [Addr.add]
        case c2a => first | rfl | (intro u hu; simp at hu; subst hu; rfl)
        case c3a => unfold maxLen; have := HL.out; omega
        case c4a => have := HL.out; omega
        case c5a => simp; omega
        intro v' w9 hown' hgrow hnil
        have hrow : ∀ g, _ = some g → w3.heap.size ≤ g := fun g hg => (hown.lt g hg).1
        have HN : Hid (OwnI w9 w3.heap.size v' (fs ++ [y])) := Lib.hid (by unfold OwnI; simpa using hown')
        have HR9 := Lib.hid ((HR5.out.alloc _).grown2 hgrow hBR hrow)
        have HG := Lib.hid ((hW5.alloc _).grown2 hgrow hrow)
        clear hown' hgrow hnil hown hrow hW5
        go_wp2
        go_roundw
        case rel => exact ⟨k + 1, fs ++ [y], by go_num, by omega, Lib.hid (by have := HL.out; simp; omega), HN, ⟨_, by omega, HR9⟩, HG.out⟩
        case measure => simp [intOf]; omega
    · obtain rfl : k = zs.length := by omega
      have hLr := hL.onlyo hW
      have hkr : Keep w wr := Only.keep hW hk3 (Nat.le_refl _)
      by_cases h0 : zs.length = 0
      · have hg0 : decide ((0 : Int) < (zs.length : Int)) = false := decide_eq_false (by omega)
        obtain ⟨b, d, rfl, hd, hLf⟩ := HO.out.lsc
        have HL0 := Lib.hid (show fs.length ≤ 13 by have := HL.out; omega)
        clear HL
        go_wp2
        go_ret2
        exact ⟨a, b, c, d, zs, fs, rfl, ⟨hl13, hc⟩, ⟨HL0.out, hd⟩, HB.out, hLr.1, hLf, hkr⟩
      · have hg0 : decide ((0 : Int) < (zs.length : Int)) = true := decide_eq_true (by omega)
        have hle : zs.length ≤ fs.length := by have := HL.out; omega
        have hge : fs.length ≤ zs.length := by have := HL.out; omega
        obtain ⟨g, d, rfl, hbg, hlg, hcell⟩ := HO.out.at_ (by omega)
        have hd : fs.length ≤ d := by
          obtain ⟨b', d', hv, hd', _⟩ := HO.out.lsc
          injection hv with _ _ hv; subst hv; exact hd'
        clear HL
        go_wp2_with fail
        refine (pick_any _ q 16 _ (by omega) (by omega) HR.out).mono ?_
        rintro e w4 ⟨x, rfl, x0, x1, hr4, ho4, hs4⟩
        have hO4 := HO.out.only ho4 hBR
        have hL4 := hLr.onlyo ho4
        have hk4 : Keep w w4 := Only.keep ho4 hkr (Nat.le_refl _)
        rcases (show x = 0 ∨ x = 1 ∨ ((x == 0) = false ∧ (x == 1) = false) by by_cases h0 : x = 0 <;> by_cases h1 : x = 1 <;> simp_all) with rfl | rfl | ⟨n0, n1⟩
        · go_wp2_with fail
          refine (pick_any _ (q + 1) zs.length _ (by omega) (by omega) hr4).mono ?_
          rintro e w5 ⟨t, rfl, t0, t1, hr5, ho5, hs5⟩
          go_wp2_with fail
          refine (pick_any _ (q + 2) 2 _ (by omega) (by omega) (hr5.alloc _)).mono ?_
          rintro e w6 ⟨s, rfl, s0, s1, hr6, ho6, hs6⟩
          obtain ⟨u, hu, cu⟩ := newCellAny [-1, 16] ho6 hr5.lt s s0 s1
          clear hu
          have ho56 := ho5.trans (((Only.refl _ w5).alloc (.cells (([-1, 16] : List Int).map (Value.int .i64)).toArray 3)).trans ho6)
          have HO6 := Lib.hid (hO4.only ho56 hBR)
          have hL6 := hL4.onlyo ho56
          have hk6 : Keep w w6 := Only.keep ho56 hk4 (Nat.le_refl _)
          obtain ⟨g', d', hv', hb', hlt3, hcell3⟩ := HO6.out.at_ (by omega)
          injection hv' with hv1 _ hv2
          injection hv1 with hv1
          injection hv1 with hv1
          subst hv1
          subst hv2
          have htk : t.toNat < fs.length := by omega
          obtain ⟨d1, d2⟩ := hcell3 t.toNat htk
          have t2 : t < (zs.length : Int) := t1
          have t3 : t < (fs.length : Int) := by omega
          have HS := Lib.hid (HO6.out.stored t.toNat u)
          have HLz := Lib.hid (hL6.1.set_other hlo hb' t.toNat (.int .i64 u))
          have HKz := Lib.hid (hk6.setCell (b := g) (o := t.toNat) (by omega) (.int .i64 u))
          clear hcell3 hr4 hr5 hr6 ho4 ho5 ho6 hs4 hs5 hs6 ho56 hL6 hk6 hL4 hk4 hO4 hLr hkr hcell
          go_wp2
          go_ret2
          refine ⟨a, some ⟨g, 0, none⟩, c, d, zs, fs.set t.toNat u, ?_, ⟨hl13, hc⟩, ⟨by rw [List.length_set]; omega, by rw [List.length_set]; exact hd⟩, HB.out, HLz.out, ?_, HKz.out⟩
          · rw [List.length_set]; rfl
          · have := HS.out; rw [List.length_set] at this
            obtain ⟨b'', d'', hv, _, hq⟩ := OwnI.lsc (zs := fs.set t.toNat u) (by unfold OwnI; rw [List.length_set]; unfold OwnI at this; rw [List.length_set] at this; exact this)
            injection hv with hv _ _; subst hv; exact hq
        · go_wp2_with fail
          go_quiet (fail)
          have hq : Ls w4 (some ⟨g, 0, none⟩) fs := (Ls.own hO4).2
          go_wp2
          go_ret2
          refine ⟨a, some ⟨g, 0, none⟩, c, d, zs, fs.take (fs.length - 1), ?_, ⟨hl13, hc⟩, ⟨by rw [List.length_take]; omega, by rw [List.length_take]; omega⟩, HB.out, hL4.1, ?_, hk4.drewN _⟩
          · rw [List.length_take, show min (fs.length - 1) fs.length = zs.length - 1 by omega]; rfl
          · exact (hq.take' _).drewN _
        · go_wp2
          go_ret2
          have hq : Ls w4 (some ⟨g, 0, none⟩) fs := (Ls.own hO4).2
          exact ⟨a, some ⟨g, 0, none⟩, c, d, zs, fs, rfl, ⟨hl13, hc⟩, ⟨by omega, hd⟩, HB.out, hL4.1, hq, hk4⟩
end Go.Proofs.Ytaghgapkjdkkfaa
