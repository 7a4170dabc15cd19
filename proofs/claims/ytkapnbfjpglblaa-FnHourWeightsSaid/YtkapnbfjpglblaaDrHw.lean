/- The laws' own drawing of readings with weights out of their code. -/
import Derived.Test.YtkapnbfjpglblaaDrHl
import Derived.Deep.QuietTactic
import Derived.BigQuiet
import Derived.Outline
namespace Go.Proofs.Ytkapnbfjpglblaa
open Go.RowKit
set_option linter.unusedVariables false

theorem small_prod {x y : Int} (h0 : 0 ≤ x) (h1 : x < 4) (h2 : 0 ≤ y) (h3 : y < 3) : 0 ≤ x * y ∧ x * y ≤ 9 := by
  have e : y = 0 ∨ y = 1 ∨ y = 2 := by omega
  rcases e with rfl | rfl | rfl <;> omega
theorem OwnI.grown {w w' : World} {base base2 : Nat} {v v2 : Value} {zs ys : List Int} (h : OwnI w base v zs) (h2 : OwnI w base2 v2 ys) (hv : ∀ k, v.ownBlock = some k → k < base2) (hg : w.grownBy w' v2.ownBlock) : OwnI w' base v zs := by
  refine World.ownsRow.kept h hg ?_
  cases hv1 : v.ownBlock with
  | none => left; rfl
  | some k => right; intro e; have := hv k hv1; have := (h2.lt k e.symm).1; omega
theorem OwnI.alloc {w : World} {base : Nat} {v : Value} {zs : List Int} (h : OwnI w base v zs) (o : Obj) : OwnI (w.alloc o) base v zs := World.ownsRow.alloc h o
theorem OwnI.far {w : World} {base : Nat} {v : Value} {zs : List Int} (h : OwnI w base v zs) {g j : Nat} (u : Value) (hv : ∀ k, v.ownBlock = some k → k < g) : OwnI (w.setCell ⟨g, j, none⟩ u) base v zs := by
  refine World.ownsRow.kept (row := some g) h ⟨rfl, rfl, rfl, by simp [World.setCell], fun k hk hne => Below.heap_setCell _ _ _ _ (by intro e; exact hne (by rw [e]))⟩ ?_
  cases hv1 : v.ownBlock with
  | none => left; rfl
  | some k => right; intro e; injection e with e; have := hv k hv1; omega

theorem OwnI.capOk {w : World} {base n : Nat} {a : Option Addr} {c : Nat} {zs : List Int} (h : OwnI w base (.slice a n c) zs) : zs.length ≤ c := by
  rcases h.2 with ⟨h1, h0⟩ | ⟨g, cap, cur, hv, _, _, hc, _⟩
  · omega
  · injection hv with _ _ hv; subst hv; exact hc
/-- Drawn readings with weights. -/
def DrewWt (w : World) (e : Ending) (w' : World) : Prop :=
  ∃ (a : Option Addr) (c : Nat) (zs : List Int) (b : Option Addr) (d : Nat) (ws : List Int), e = .returned (.tuple #[.slice a zs.length c, .slice b ws.length d]) ∧ (zs.length ≤ 6 ∧ ws.length ≤ 6) ∧ Btw (-1000) 11000 zs ∧ Btw (-1) 10 ws ∧ Ls w' a zs ∧ Ls w' b ws ∧ Keep w w'

theorem cut_ls {w : World} {g : Nat} {ws : List Int} (h : ∀ j, j < ws.length → w.cell? ⟨g, j, none⟩ = some (.int .i64 (ws.getD j 0))) (hg : g < w.heap.size) (m : Nat) : Ls w (some ⟨g, 0, none⟩) (ws.take m) := by
  refine .inr ⟨g, 0, rfl, hg, fun i hi => ?_⟩
  rw [List.length_take] at hi
  rw [Nat.zero_add, h i (by omega)]
  congr 2
  simp [List.getD_eq_getElem?_getD, show i < m by omega]

set_option maxRecDepth 100000 in
set_option maxHeartbeats 4000000 in
theorem drawHourWeights (a0 : Option Addr) (len cap : Nat) (w : World) (ha : CodeArg w a0 len cap) :
    Calls Try.prog 29 #[.slice a0 len cap] w (DrewWt w) := by
  obtain ⟨i0, hi, hz0, hz1, hz2⟩ := info_parts infoInt'
  go_enter Try.func29, Try.ntmps29
  go_wp2_with fail
  refine (open_any a0 len cap _ ha).mono ?_
  rintro e w1 ⟨rfl, hr1, hb, hs⟩
  have hb : Keep w w1 := hb
  go_wp2_with fail
  refine (pick_any _ 0 6 _ (by omega) (by omega) hr1).mono ?_
  rintro e w2 ⟨m, rfl, m0, m1, hr2, ho2, hs2⟩
  obtain ⟨m, rfl⟩ := Int.eq_ofNat_of_zero_le m0
  obtain ⟨n, hn⟩ : ∃ n : Nat, n = m + 1 := ⟨_, rfl⟩
  have n0 : 1 ≤ n := by omega
  have n1 : n ≤ 6 := by omega
  have e1 : 1 + (m : Int) = (n : Int) := by omega
  clear hn m0 m1
  have HD := Lib.hid (drawReadings _ 1 n _ (by omega) (by omega) hr2)
  go_wp2_with fail
  refine HD.out.mono ?_
  rintro e w3 ⟨lv, zs, q, rfl, hl, hB, hO, hq, hr3, ho3⟩
  have hBR := hr2.lt
  have HL := Lib.hid hl
  have HZ := Lib.hid hB
  have ho13 := ho2.trans ho3
  have hlv : Hid (∀ k, lv.ownBlock = some k → k < w3.heap.size) := Lib.hid (fun k hk => (World.ownsRow.lt hO k hk).2)
  have HO3 := Lib.hid hO
  have hB3 : w.heap.size < w3.heap.size := hr3.lt
  clear hl hB hO ho2 ho3 HD hr2
  go_wp2_with fail
  go_loopw [7, 8] (fun v i wr => ∃ (k q : Nat) (ws : List Int), i = .int .i64 k ∧ k ≤ n ∧ Hid (ws.length = k) ∧ Hid (Btw (-1) 10 ws) ∧ Hid (OwnI wr w3.heap.size v ws) ∧ Hid (OwnI wr w2.heap.size lv zs) ∧ q ≤ 20 + 2 * k ∧ Hid (Rd wr w.heap.size q) ∧ Only w.heap.size w3 wr) (fun _ i _ => n - (intOf i).toNat)
  case atStart =>
    exact ⟨0, q, [], rfl, Nat.zero_le _, Lib.hid rfl, Lib.hid (fun x hx => by simp at hx), Lib.hid (World.ownsRow_made w3 #[] 0 (Nat.le_refl _) (by unfold maxLen; omega) rfl), Lib.hid (HO3.out.alloc _), by omega, Lib.hid (hr3.alloc _), (Only.refl _ w3).alloc _⟩
  case round =>
    obtain ⟨k, q, ws, rfl, hk, HK, HW, HO, HO2, hq, HR, hOn⟩ := hrel
    have hsz := hOn.size
    by_cases hlt : k < n
    · go_wp2_with fail
      refine (pick_any _ q 4 _ (by omega) (by omega) HR.out).mono ?_
      rintro e w4 ⟨x, rfl, x0, x1, hr4, ho4, hs4⟩
      go_wp2_with fail
      refine (pick_any _ (q + 1) 3 _ (by omega) (by omega) hr4).mono ?_
      rintro e w5 ⟨y, rfl, y0, y1, hr5, ho5, hs5⟩
      obtain ⟨p0, p1⟩ := small_prod x0 x1 y0 y1
      have HO5 := Lib.hid ((HO.out.only ho4 hB3).only ho5 hB3)
      have HO25 := Lib.hid ((HO2.out.only ho4 hBR).only ho5 hBR)
      have HR5 := Lib.hid hr5
      have hOn5 := (hOn.trans ho4).trans ho5
      have hs1z := hOn5.size
      clear hr4 ho4 hs4 hr5 ho5 hs5 HO HO2 HR hOn hsz x0 x1 y0 y1
      have hown : w5.ownsRow w3.heap.size 3 1 _ ws.length (ws.map (Value.int .i64)) := HO5.out
      go_wp2_with (at_builtin; refine wpList_append_own _ rfl _ _ 32 rfl w3.heap.size 3 i0 (.int .i64 0) 1 8 Try.underlying32 hi hz0 hz1 hz2 rfl (by decide) _ _ _ rfl (hown.alloc _) ⟨w5.heap.size, 0, none⟩ 1 1 [.int .i64 (x * y)] rfl rfl ?c1a ?c2a ?c3a ?c4a ?c5a ?_)
      case c1a =>
        intro j u hj
        match j, hj with
        | 0, hj => simp at hj; subst hj; simp [Addr.add]
      case c2a => first | rfl | (intro u hu; simp at hu; subst hu; rfl)
      case c3a => unfold maxLen; have := HK.out; omega
      case c4a => have := HK.out; omega
      case c5a => simp; omega
      intro v' w6 hown' hgrow hnil
      have hrow : ∀ g, _ = some g → w3.heap.size ≤ g := fun g hg => (hown.lt g hg).1
      have HN : Hid (OwnI w6 w3.heap.size v' (ws ++ [x * y])) := Lib.hid (by unfold OwnI; simpa using hown')
      have HN2 := Lib.hid ((HO25.out.alloc (.cells #[.int .i64 (x * y)] 3)).grown (HO5.out.alloc _) hlv.out hgrow)
      have HR2 := Lib.hid ((HR5.out.alloc _).grown2 hgrow hB3 hrow)
      have HG := Lib.hid ((hOn5.alloc _).grown2 hgrow hrow)
      have HB2 := Lib.hid (HW.out.snoc (u := x * y) (by omega) (by omega))
      clear hown' hgrow hnil hown hrow hOn5
      go_wp2
      go_roundw
      case rel => exact ⟨k + 1, q + 2, ws ++ [x * y], by go_num, by omega, Lib.hid (by have := HK.out; simp; omega), HB2, HN, HN2, by omega, HR2, HG.out⟩
      case measure => simp [intOf]; omega
    · obtain rfl : k = n := by omega
      have hlen : 0 < ws.length := by have := HK.out; omega
      obtain ⟨g, cap', rfl, hbg, hlg, hcell⟩ := HO.out.at_ hlen
      obtain ⟨a, c, rfl, hLz⟩ := HO2.out.ls
      go_wp2_with fail
      refine (pick_any _ q 20 _ (by omega) (by omega) HR.out).mono ?_
      rintro e w4 ⟨y, rfl, y0, y1, hr4, ho4, hs4⟩
      have HO4 := Lib.hid (HO.out.only ho4 hB3)
      have HO24 := Lib.hid (HO2.out.only ho4 hBR)
      have hOn4 := hOn.trans ho4
      have hk4 : Keep w w4 := Only.keep (ho13.trans hOn4) hb (Nat.le_refl _)
      have hcase : (y == 0) = true ∨ ((y == 0) = false ∧ (y == 1) = true) ∨ ((y == 0) = false ∧ (y == 1) = false) := by
        by_cases h : y = 0 <;> by_cases h' : y = 1 <;> simp [h, h']
      have HC := Lib.hid hcell
      clear hcell
      rcases hcase with h1 | ⟨h1, h2⟩ | ⟨h1, h2⟩
      · go_wp2_with fail
        refine (pick_any _ (q + 1) k _ (by omega) (by omega) hr4).mono ?_
        rintro e w5 ⟨t, rfl, t0, t1, hr5, ho5, hs5⟩
        go_wp2_with fail
        refine (pick_any _ (q + 2) 3 _ (by omega) (by omega) (hr5.alloc _)).mono ?_
        rintro e w6 ⟨s, rfl, s0, s1, hr6, ho6, hs6⟩
        obtain ⟨u, hu, cu⟩ := newCellAny [-1, 9, 10] ho6 hr5.lt s s0 s1
        have u0 : -1 ≤ u := by simp at hu; omega
        have u1 : u ≤ 10 := by simp at hu; omega
        clear hu
        have ho56 := ho5.trans ((Only.refl w.heap.size w5).alloc (.cells (([-1, 9, 10] : List Int).map (Value.int .i64)).toArray 3) |>.trans ho6)
        have HO6 := Lib.hid (HO4.out.only ho56 hB3)
        have HO26 := Lib.hid (HO24.out.only ho56 hBR)
        obtain ⟨g', cap2, hv', _, hlt6, hcell6⟩ := HO6.out.at_ hlen
        injection hv' with hv1 _ hv2
        injection hv1 with hv1
        injection hv1 with hv1
        subst hv1
        subst hv2
        have hlen2 := HK.out
        obtain ⟨d1, d2⟩ := hcell6 t.toNat (by omega)
        have hk6 : Keep w w6 := Only.keep ((ho13.trans hOn4).trans ho56) hb (Nat.le_refl _)
        have t2 : t < (ws.length : Int) := by omega
        have HS := Lib.hid (HO6.out.stored t.toNat u)
        have HS2 := Lib.hid (HO26.out.far (g := g) (j := t.toNat) (.int .i64 u) (fun k hk => by have := hlv.out k hk; omega))
        have hk7 := hk6.setCell (b := g) (o := t.toNat) (by omega) (.int .i64 u)
        clear hcell6 hlen2 hr4 ho4 hs4 hr5 ho5 hs5 hr6 ho6 hs6 ho56 hOn4 hOn
        go_wp2
        go_ret2
        refine ⟨a, c, zs, some ⟨g, 0, none⟩, cap', ws.set t.toNat u, ?_, ⟨by have := HL.out; omega, by have := HK.out; simp; omega⟩, HZ.out, HW.out.set _ u0 u1, (by obtain ⟨a', c', e1', h1'⟩ := HS2.out.ls; injection e1' with e2' _ _; subst e2'; exact h1'), (Ls.own HS.out).2, hk7⟩
        rw [List.length_set]
        rfl
      · have hlen2 := HK.out
        have q0 : IntKind.i64.wrap ((k : Int) - 1) = (k : Int) - 1 := IntWalk.i64_in _ (by omega)
        have q1 : (0 : Int) ≤ (k : Int) - 1 := by omega
        have hcap := HO4.out.capOk
        have q2 : (k : Int) - 1 ≤ (cap' : Int) := by omega
        have q3 : ((k : Int) - 1).toNat = k - 1 := by omega
        have HL4 := Lib.hid (show Ls w4 a zs by obtain ⟨a', c', e1', h1'⟩ := HO24.out.ls; injection e1' with e2' _ _; subst e2'; exact h1')
        obtain ⟨g', cap2, hv', _, hlt6, hcell6⟩ := HO4.out.at_ hlen
        injection hv' with hv1 _ hv2
        injection hv1 with hv1
        injection hv1 with hv1
        subst hv1
        subst hv2
        have HK5 := Lib.hid hk4
        have HT := Lib.hid (cut_ls (fun j hj => (hcell6 j hj).1) hlt6 (k - 1))
        clear hcell6 hlen2
        go_wp2_with fail
        go_quiet (fail)
        clear q0 q3
        go_wp2
        go_ret2
        refine ⟨a, c, zs, some ⟨g, 0, none⟩, cap', ws.take (k - 1), ?_, ⟨by have := HL.out; omega, by have := HK.out; rw [List.length_take]; omega⟩, HZ.out, fun x hx => HW.out x (List.mem_of_mem_take hx), HL4.out, HT.out, HK5.out.drewN _⟩
        have e5 : (ws.take (k - 1)).length = k - 1 := by have := HK.out; rw [List.length_take]; omega
        rw [e5]
        rfl
      · have HL4 := Lib.hid (show Ls w4 a zs by obtain ⟨a', c', e1', h1'⟩ := HO24.out.ls; injection e1' with e2' _ _; subst e2'; exact h1')
        go_wp2
        go_ret2
        exact ⟨a, c, zs, _, cap', ws, rfl, ⟨by have := HL.out; omega, by have := HK.out; omega⟩, HZ.out, HW.out, HL4.out, (Ls.own HO4.out).2, hk4⟩
end Go.Proofs.Ytkapnbfjpglblaa
