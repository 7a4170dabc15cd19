/- How parts and cuts are drawn. -/
import Derived.Test.YtpgdbhafdnfhcaaDrSq
namespace Go.Proofs.Ytpgdbhafdnfhcaa
open Go.RowKit
set_option linter.unusedVariables false

def DrewFl (lo hi : Int) (n : Nat) (w : World) (B p k : Nat) (e : Ending) (w' : World) : Prop :=
  ∃ (a : Option Addr) (c : Nat) (zs : List Int) (q : Nat), e = .returned (.slice a zs.length c) ∧ zs.length ≤ n ∧ zs.length ≤ c ∧ Btw lo hi zs ∧ LsN B w' a zs ∧ q ≤ p + k ∧ Rd w' B q ∧ Only B w w'
theorem drewFl {lo hi : Int} {n : Nat} {w : World} {B p k : Nat} {v : Value} {w' : World} {zs : List Int} {q : Nat} (hB : B < w.heap.size) (hO : OwnI w' w.heap.size v zs) (hl : zs.length ≤ n) (hb : Btw lo hi zs) (hq : q ≤ p + k) (hr : Rd w' B q) (ho : Only B w w') : DrewFl lo hi n w B p k (.returned v) w' := by
  obtain ⟨a, c, rfl, hc, hL⟩ := hO.lsn hB
  exact ⟨a, c, zs, q, rfl, hl, hc, hb, hL, hq, hr, ho⟩
set_option maxRecDepth 100000 in
set_option maxHeartbeats 4000000 in
theorem drawFull (B p : Nat) (w : World) (hp : p ≤ 700000) (hr : Rd w B p) :
    Calls Try.prog 68 #[.pointer (some ⟨B, 0, none⟩)] w (DrewFl (-10000) 12000 11 w B p 40) := by
  have hBR := hr.lt
  obtain ⟨i0, hi, hz0, hz1, hz2⟩ := info_parts infoInt'
  go_enter Try.func68, Try.ntmps68
  go_wp2_with fail
  refine (pick_any B p 8 _ (by omega) (by omega) (hr.alloc _)).mono ?_
  rintro e wf ⟨xf, rfl, xf0, xf1, hrf, hof, hsf⟩
  have hWf : Only B w wf := ((Only.refl B w).alloc _).trans hof
  have hOf : OwnI wf w.heap.size (.slice (some ⟨w.heap.size, 0, none⟩) 0 0) [] := OwnI.only (World.ownsRow_made w #[] 0 (Nat.le_refl _) (by unfold maxLen; omega) rfl) hof hBR
  clear hof hsf hr
  obtain ⟨n, hn⟩ : ∃ n : Nat, n = 1 + xf.toNat := ⟨_, rfl⟩
  have hn1 : 1 ≤ n ∧ n ≤ 8 := by omega
  obtain rfl : xf = (n : Int) - 1 := by omega
  clear hn xf0 xf1
  go_wp2_with fail
  refine (pick_any B (p + 1) 60 _ (by omega) (by omega) hrf).mono ?_
  rintro e wg ⟨xg, rfl, xg0, xg1, hrg, hog, hsg⟩
  have hWg : Only B w wg := hWf.trans hog
  have hOg := hOf.only hog hBR
  clear hog hsg hrf hWf hOf
  have hnn : (1 : Int) + ((n : Int) - 1) = (n : Int) := by omega
  go_wp2_with fail
  go_loopw [3, 5, 6] (fun v l i wr => ∃ (k : Nat) (zs : List Int) (y : Int), i = .int .i64 k ∧ l = .int .i64 y ∧ k ≤ n ∧ Hid (zs.length = k) ∧ Hid (Btw (-10000) 12000 zs) ∧ Hid (OwnI wr w.heap.size v zs) ∧ 0 ≤ y ∧ y ≤ 60 ∧ (∃ q : Nat, q ≤ p + 2 + 3 * k ∧ Hid (Rd wr B q)) ∧ Only B w wr) (fun _ _ i _ => n - (intOf i).toNat)
  case atStart =>
    exact ⟨0, [], xg, rfl, rfl, Nat.zero_le _, Lib.hid rfl, Lib.hid (fun x hx => by simp at hx), Lib.hid hOg, by omega, by omega, ⟨_, by omega, Lib.hid hrg⟩, hWg⟩
  case round =>
    obtain ⟨k, zs, y, rfl, rfl, hk, HL, HB, HO, hy0, hy1, ⟨q, hq, HR⟩, hW⟩ := hrel
    clear hOg hWg hrg
    have hsz := hW.size
    by_cases hlt : k < n
    · go_wp2_with fail
      refine (pick_any B q 4 _ (by omega) (by omega) HR.out).mono ?_
      rintro e w1 ⟨z, rfl, z0, z1, hr1, ho1, hs1⟩
      have HO1 := Lib.hid (HO.out.only ho1 hBR)
      have HR1 := Lib.hid hr1
      have hW1 := hW.trans ho1
      have hsz1 := hW1.size
      clear ho1 hs1 HO HR hW hsz hr1
      rcases (show z = 0 ∨ (z == 0) = false by by_cases h : z = 0 <;> simp [h]) with rfl | hz
      · go_wp2_with fail
        refine (pick_any B (q + 1) 60 _ (by omega) (by omega) HR1.out).mono ?_
        rintro e w2 ⟨l, rfl, l0, l1, hr2, ho2, hs2⟩
        have HO2 := Lib.hid (HO1.out.only ho2 hBR)
        have HR2 := Lib.hid hr2
        have hW2 := hW1.trans ho2
        have hsz2 := hW2.size
        clear ho2 hs2 HO1 HR1 hW1 hsz1 hr2
        go_wp2_with fail
        refine (pick_any B (q + 2) 6 _ (by omega) (by omega) HR2.out).mono ?_
        rintro e w3 ⟨x, rfl, x0, x1, hr3, ho3, hs3⟩
        have HO3 := Lib.hid (HO2.out.only ho3 hBR)
        have HR3 := Lib.hid hr3
        have hW3 := hW2.trans ho3
        have hsz3 := hW3.size
        clear ho3 hs3 HO2 HR2 hW2 hr3
        have hown : w3.ownsRow w.heap.size 3 1 _ zs.length (zs.map (Value.int .i64)) := HO3.out
        go_wp2_with (at_builtin; refine wpList_append_own _ rfl _ _ 43 rfl w.heap.size 3 i0 (.int .i64 0) 1 8 Try.underlying43 hi hz0 hz1 hz2 rfl (by decide) _ _ _ rfl (hown.alloc _) ⟨w3.heap.size, 0, none⟩ 1 1 [.int .i64 (l + x)] rfl rfl ?c1a ?c2a ?c3a ?c4a ?c5a ?_)
        try case c1a =>
          intro j u hj
          match j, hj with
          | 0, hj => simp at hj; subst hj; simp [Addr.add]
        try case c2a => first | rfl | (intro u hu; simp at hu; rcases hu with rfl | rfl | rfl <;> rfl) | (intro u hu; simp at hu; subst hu; rfl)
        case c3a => unfold maxLen; have := HL.out; omega
        case c4a => have := HL.out; omega
        case c5a => have := HL.out; first | omega | (simp; omega)
        intro v' w9 hown' hgrow hnil
        have hrow : ∀ g, _ = some g → w.heap.size ≤ g := fun g hg => (hown.lt g hg).1
        have HN : Hid (OwnI w9 w.heap.size v' (zs ++ [(l + x)])) := Lib.hid (by unfold OwnI; simpa using hown')
        have HR9 := Lib.hid ((HR3.out.alloc _).grown2 hgrow hBR hrow)
        have HG := Lib.hid ((hW3.alloc _).grown2 hgrow hrow)
        clear hown' hgrow hnil hown hrow
        have HB2 := Lib.hid (HB.out.snoc (show -10000 ≤ l + x by omega) (show l + x ≤ 12000 by omega))
        clear hW3
        go_wp2
        go_roundw
        case rel => exact ⟨k + 1, zs ++ [l + x], l, by go_num, by go_num, by omega, Lib.hid (by have := HL.out; simp; omega), HB2, HN, by omega, by omega, ⟨_, by omega, HR9⟩, HG.out⟩
        case measure => simp [intOf]; omega
      · go_wp2_with fail
        refine (pick_any B (q + 1) 6 _ (by omega) (by omega) HR1.out).mono ?_
        rintro e w3 ⟨x, rfl, x0, x1, hr3, ho3, hs3⟩
        have HO3 := Lib.hid (HO1.out.only ho3 hBR)
        have HR3 := Lib.hid hr3
        have hW3 := hW1.trans ho3
        have hsz3 := hW3.size
        clear ho3 hs3 HO1 HR1 hW1 hr3
        have hown : w3.ownsRow w.heap.size 3 1 _ zs.length (zs.map (Value.int .i64)) := HO3.out
        go_wp2_with (at_builtin; refine wpList_append_own _ rfl _ _ 43 rfl w.heap.size 3 i0 (.int .i64 0) 1 8 Try.underlying43 hi hz0 hz1 hz2 rfl (by decide) _ _ _ rfl (hown.alloc _) ⟨w3.heap.size, 0, none⟩ 1 1 [.int .i64 (y + x)] rfl rfl ?c1a ?c2a ?c3a ?c4a ?c5a ?_)
        try case c1a =>
          intro j u hj
          match j, hj with
          | 0, hj => simp at hj; subst hj; simp [Addr.add]
        try case c2a => first | rfl | (intro u hu; simp at hu; rcases hu with rfl | rfl | rfl <;> rfl) | (intro u hu; simp at hu; subst hu; rfl)
        case c3a => unfold maxLen; have := HL.out; omega
        case c4a => have := HL.out; omega
        case c5a => have := HL.out; first | omega | (simp; omega)
        intro v' w9 hown' hgrow hnil
        have hrow : ∀ g, _ = some g → w.heap.size ≤ g := fun g hg => (hown.lt g hg).1
        have HN : Hid (OwnI w9 w.heap.size v' (zs ++ [(y + x)])) := Lib.hid (by unfold OwnI; simpa using hown')
        have HR9 := Lib.hid ((HR3.out.alloc _).grown2 hgrow hBR hrow)
        have HG := Lib.hid ((hW3.alloc _).grown2 hgrow hrow)
        clear hown' hgrow hnil hown hrow
        have HB2 := Lib.hid (HB.out.snoc (show -10000 ≤ y + x by omega) (show y + x ≤ 12000 by omega))
        clear hW3
        go_wp2
        go_roundw
        case rel => exact ⟨k + 1, zs ++ [y + x], y, by go_num, by go_num, by omega, Lib.hid (by have := HL.out; simp; omega), HB2, HN, by omega, by omega, ⟨_, by omega, HR9⟩, HG.out⟩
        case measure => simp [intOf]; omega
    · obtain rfl : k = n := by omega
      go_wp2_with fail
      refine (pick_any B q 20 _ (by omega) (by omega) HR.out).mono ?_
      rintro e w1 ⟨z, rfl, z0, z1, hr1, ho1, hs1⟩
      have HO1 := Lib.hid (HO.out.only ho1 hBR)
      have HR1 := Lib.hid hr1
      have hW1 := hW.trans ho1
      have hsz1 := hW1.size
      clear ho1 hs1 HO HR hW hsz hr1
      rcases (show z = 0 ∨ z = 1 ∨ z = 2 ∨ ((z == 0) = false ∧ (z == 1) = false ∧ (z == 2) = false) by
        by_cases h0 : z = 0 <;> by_cases h1 : z = 1 <;> by_cases h2 : z = 2 <;> simp_all) with rfl | rfl | rfl | ⟨n0, n1, n2⟩
      · go_wp2_with fail
        refine (pick_any B (q + 1) k _ (by omega) (by omega) HR1.out).mono ?_
        rintro e w2 ⟨t, rfl, t0, t1, hr2, ho2, hs2⟩
        obtain ⟨j, rfl⟩ := Int.eq_ofNat_of_zero_le t0
        have HO2 := Lib.hid (HO1.out.only ho2 hBR)
        have hW2 := hW1.trans ho2
        clear ho2 hs2 HO1 HR1 hW1
        obtain ⟨g, cap, rfl, hgb, hgl, hcell⟩ := HO2.out.at_ (by have := HL.out; omega)
        obtain ⟨d0, f0⟩ := hcell j (by have := HL.out; omega)
        have hR9 := Lib.hid (hr2.setCell (b := g) (o := j) (by omega) (.int .i64 (-9999)))
        have hW9 := Lib.hid (hW2.setCell (b := g) (o := j) hgb (.int .i64 (-9999)))
        have hO9 := Lib.hid (HO2.out.stored j (-9999))
        have hB9 := Lib.hid (HB.out.set j (show -10000 ≤ (-9999 : Int) by omega) (show (-9999 : Int) ≤ 12000 by omega))
        rw [List.length_set] at hO9
        generalize zs.getD j 0 = dv at d0
        rw [HL.out]
        clear hcell hr2 hW2 HO2
        go_wp2
        go_ret
        refine drewFl hBR (zs := zs.set j (-9999)) ?_ (by rw [List.length_set]; have := HL.out; omega) hB9.out (by omega) hR9.out hW9.out
        have h9 := hO9.out
        try rw [List.length_set] at h9
        rw [HL.out] at h9
        exact h9
      · have hown : w1.ownsRow w.heap.size 3 1 _ zs.length (zs.map (Value.int .i64)) := HO1.out
        go_wp2_with (at_builtin; refine wpList_append_own _ rfl _ _ 43 rfl w.heap.size 3 i0 (.int .i64 0) 1 8 Try.underlying43 hi hz0 hz1 hz2 rfl (by decide) _ _ _ rfl (hown.alloc _) ⟨w1.heap.size, 0, none⟩ 3 3 [.int .i64 (1), .int .i64 (2), .int .i64 (3)] rfl rfl ?c1a ?c2a ?c3a ?c4a ?c5a ?_)
        try case c1a =>
          intro j u hj
          match j, hj with
          | 0, hj => simp at hj; subst hj; simp [Addr.add]
          | 1, hj => simp at hj; subst hj; simp [Addr.add]
          | 2, hj => simp at hj; subst hj; simp [Addr.add]
        try case c2a => first | rfl | (intro u hu; simp at hu; rcases hu with rfl | rfl | rfl <;> rfl) | (intro u hu; simp at hu; subst hu; rfl)
        case c3a => unfold maxLen; have := HL.out; omega
        case c4a => have := HL.out; omega
        case c5a => have := HL.out; first | omega | (simp; omega)
        intro v' w9 hown' hgrow hnil
        have hrow : ∀ g, _ = some g → w.heap.size ≤ g := fun g hg => (hown.lt g hg).1
        have HN : Hid (OwnI w9 w.heap.size v' (zs ++ [(1), (2), (3)])) := Lib.hid (by unfold OwnI; simpa using hown')
        have HR9 := Lib.hid ((HR1.out.alloc _).grown2 hgrow hBR hrow)
        have HG := Lib.hid ((hW1.alloc _).grown2 hgrow hrow)
        clear hown' hgrow hnil hown hrow
        go_wp2
        go_ret
        exact drewFl hBR HN.out (by have := HL.out; simp; omega) (by have h9 := ((HB.out.snoc (u := 1) (by omega) (by omega)).snoc (u := 2) (by omega) (by omega)).snoc (u := 3) (by omega) (by omega); simpa using h9) (by omega) HR9.out HG.out
      · have HO2 := Lib.hid (World.ownsRow_made w1 #[] 0 hsz1 (by unfold maxLen; omega) rfl : OwnI (w1.alloc (.cells #[] 3)) w.heap.size (.slice (some ⟨w1.heap.size, 0, none⟩) 0 0) [])
        go_wp2
        go_ret
        exact drewFl (v := .slice (some ⟨w1.heap.size, 0, none⟩) 0 0) (zs := []) hBR HO2.out (by simp) (fun x hx => by simp at hx) (by omega) (HR1.out.alloc _) (hW1.alloc _)
      · go_wp2
        go_ret
        exact drewFl hBR HO1.out (by have := HL.out; omega) HB.out (by omega) HR1.out hW1
set_option maxRecDepth 100000 in
set_option maxHeartbeats 4000000 in
theorem drawCuts (B p : Nat) (n0 : Int) (w : World) (hp : p ≤ 700000) (h0 : 1 ≤ n0) (h8 : n0 ≤ 8) (hr : Rd w B p) :
    Calls Try.prog 69 #[.pointer (some ⟨B, 0, none⟩), .int .i64 n0] w (DrewFl 0 8 8 w B p 20) := by
  have hBR := hr.lt
  obtain ⟨n, rfl⟩ := Int.eq_ofNat_of_zero_le (show 0 ≤ n0 by omega)
  obtain ⟨i0, hi, hz0, hz1, hz2⟩ := info_parts infoInt'
  have hOf : OwnI (w.alloc (.cells #[] 3)) w.heap.size (.slice (some ⟨w.heap.size, 0, none⟩) 0 0) [] := World.ownsRow_made w #[] 0 (Nat.le_refl _) (by unfold maxLen; omega) rfl
  go_enter Try.func69, Try.ntmps69
  go_wp2_with fail
  go_loopw [5, 6] (fun v i wr => ∃ (k : Nat) (zs : List Int), i = .int .i64 k ∧ 1 ≤ k ∧ k ≤ n ∧ Hid (zs.length + 1 ≤ k) ∧ Hid (Btw 0 8 zs) ∧ Hid (OwnI wr w.heap.size v zs) ∧ (∃ q : Nat, q ≤ p + k ∧ Hid (Rd wr B q)) ∧ Only B w wr) (fun _ i _ => n - (intOf i).toNat)
  case atStart =>
    exact ⟨1, [], rfl, by omega, by omega, Lib.hid (by simp), Lib.hid (fun x hx => by simp at hx), Lib.hid hOf, ⟨p, by omega, Lib.hid (hr.alloc _)⟩, (Only.refl B w).alloc _⟩
  case round =>
    obtain ⟨k, zs, rfl, hk1, hk, HL, HB, HO, ⟨q, hq, HR⟩, hW⟩ := hrel
    clear hOf hr
    have hsz := hW.size
    by_cases hlt : k < n
    · go_wp2_with fail
      refine (pick_any B q 3 _ (by omega) (by omega) HR.out).mono ?_
      rintro e w1 ⟨z, rfl, z0, z1, hr1, ho1, hs1⟩
      have HO1 := Lib.hid (HO.out.only ho1 hBR)
      have HR1 := Lib.hid hr1
      have hW1 := hW.trans ho1
      have hsz1 := hW1.size
      clear ho1 hs1 HO HR hW hsz hr1
      rcases (show z = 0 ∨ (z == 0) = false by by_cases h : z = 0 <;> simp [h]) with rfl | hz
      · have hown : w1.ownsRow w.heap.size 3 1 _ zs.length (zs.map (Value.int .i64)) := HO1.out
        go_wp2_with (at_builtin; refine wpList_append_own _ rfl _ _ 43 rfl w.heap.size 3 i0 (.int .i64 0) 1 8 Try.underlying43 hi hz0 hz1 hz2 rfl (by decide) _ _ _ rfl (hown.alloc _) ⟨w1.heap.size, 0, none⟩ 1 1 [.int .i64 (((k : Nat) : Int))] rfl rfl ?c1a ?c2a ?c3a ?c4a ?c5a ?_)
        try case c1a =>
          intro j u hj
          match j, hj with
          | 0, hj => simp at hj; subst hj; simp [Addr.add]
        try case c2a => first | rfl | (intro u hu; simp at hu; rcases hu with rfl | rfl | rfl <;> rfl) | (intro u hu; simp at hu; subst hu; rfl)
        case c3a => unfold maxLen; have := HL.out; omega
        case c4a => have := HL.out; omega
        case c5a => have := HL.out; first | omega | (simp; omega)
        intro v' w9 hown' hgrow hnil
        have hrow : ∀ g, _ = some g → w.heap.size ≤ g := fun g hg => (hown.lt g hg).1
        have HN : Hid (OwnI w9 w.heap.size v' (zs ++ [(((k : Nat) : Int))])) := Lib.hid (by unfold OwnI; simpa using hown')
        have HR9 := Lib.hid ((HR1.out.alloc _).grown2 hgrow hBR hrow)
        have HG := Lib.hid ((hW1.alloc _).grown2 hgrow hrow)
        clear hown' hgrow hnil hown hrow
        have HB2 := Lib.hid (HB.out.snoc (show 0 ≤ ((k : Nat) : Int) by omega) (show ((k : Nat) : Int) ≤ 8 by omega))
        clear hW1
        go_wp2
        go_roundw
        case rel => exact ⟨k + 1, zs ++ [((k : Nat) : Int)], by go_num, by omega, by omega, Lib.hid (by have := HL.out; simp; omega), HB2, HN, ⟨_, by omega, HR9⟩, HG.out⟩
        case measure => simp [intOf]; omega
      · go_wp2
        go_roundw
        case rel => exact ⟨k + 1, zs, by go_num, by omega, by omega, Lib.hid (by have := HL.out; omega), HB, HO1, ⟨_, by omega, HR1⟩, hW1⟩
        case measure => simp [intOf]; omega
    · obtain rfl : k = n := by omega
      go_wp2_with fail
      refine (pick_any B q 20 _ (by omega) (by omega) HR.out).mono ?_
      rintro e w1 ⟨z, rfl, z0, z1, hr1, ho1, hs1⟩
      have HO1 := Lib.hid (HO.out.only ho1 hBR)
      have HR1 := Lib.hid hr1
      have hW1 := hW.trans ho1
      have hsz1 := hW1.size
      clear ho1 hs1 HO HR hW hsz hr1
      rcases (show z = 0 ∨ z = 1 ∨ ((z == 0) = false ∧ (z == 1) = false) by
        by_cases h0 : z = 0 <;> by_cases h1 : z = 1 <;> simp_all) with rfl | rfl | ⟨n0, n1⟩
      · have hown : w1.ownsRow w.heap.size 3 1 _ zs.length (zs.map (Value.int .i64)) := HO1.out
        go_wp2_with (at_builtin; refine wpList_append_own _ rfl _ _ 43 rfl w.heap.size 3 i0 (.int .i64 0) 1 8 Try.underlying43 hi hz0 hz1 hz2 rfl (by decide) _ _ _ rfl (hown.alloc _) ⟨w1.heap.size, 0, none⟩ 1 1 [.int .i64 (((k : Nat) : Int))] rfl rfl ?c1a ?c2a ?c3a ?c4a ?c5a ?_)
        try case c1a =>
          intro j u hj
          match j, hj with
          | 0, hj => simp at hj; subst hj; simp [Addr.add]
        try case c2a => first | rfl | (intro u hu; simp at hu; rcases hu with rfl | rfl | rfl <;> rfl) | (intro u hu; simp at hu; subst hu; rfl)
        case c3a => unfold maxLen; have := HL.out; omega
        case c4a => have := HL.out; omega
        case c5a => have := HL.out; first | omega | (simp; omega)
        intro v' w9 hown' hgrow hnil
        have hrow : ∀ g, _ = some g → w.heap.size ≤ g := fun g hg => (hown.lt g hg).1
        have HN : Hid (OwnI w9 w.heap.size v' (zs ++ [(((k : Nat) : Int))])) := Lib.hid (by unfold OwnI; simpa using hown')
        have HR9 := Lib.hid ((HR1.out.alloc _).grown2 hgrow hBR hrow)
        have HG := Lib.hid ((hW1.alloc _).grown2 hgrow hrow)
        clear hown' hgrow hnil hown hrow
        go_wp2
        go_ret
        exact drewFl hBR HN.out (by have := HL.out; simp; omega) (HB.out.snoc (by omega) (by omega)) (by omega) HR9.out HG.out
      · have hown : w1.ownsRow w.heap.size 3 1 _ zs.length (zs.map (Value.int .i64)) := HO1.out
        go_wp2_with (at_builtin; refine wpList_append_own _ rfl _ _ 43 rfl w.heap.size 3 i0 (.int .i64 0) 1 8 Try.underlying43 hi hz0 hz1 hz2 rfl (by decide) _ _ _ rfl (hown.alloc _) ⟨w1.heap.size, 0, none⟩ 1 1 [.int .i64 (1)] rfl rfl ?c1a ?c2a ?c3a ?c4a ?c5a ?_)
        try case c1a =>
          intro j u hj
          match j, hj with
          | 0, hj => simp at hj; subst hj; simp [Addr.add]
        try case c2a => first | rfl | (intro u hu; simp at hu; rcases hu with rfl | rfl | rfl <;> rfl) | (intro u hu; simp at hu; subst hu; rfl)
        case c3a => unfold maxLen; have := HL.out; omega
        case c4a => have := HL.out; omega
        case c5a => have := HL.out; first | omega | (simp; omega)
        intro v' w9 hown' hgrow hnil
        have hrow : ∀ g, _ = some g → w.heap.size ≤ g := fun g hg => (hown.lt g hg).1
        have HN : Hid (OwnI w9 w.heap.size v' (zs ++ [(1)])) := Lib.hid (by unfold OwnI; simpa using hown')
        have HR9 := Lib.hid ((HR1.out.alloc _).grown2 hgrow hBR hrow)
        have HG := Lib.hid ((hW1.alloc _).grown2 hgrow hrow)
        clear hown' hgrow hnil hown hrow
        go_wp2
        go_ret
        exact drewFl hBR HN.out (by have := HL.out; simp; omega) (HB.out.snoc (by omega) (by omega)) (by omega) HR9.out HG.out
      · go_wp2
        go_ret
        exact drewFl hBR HO1.out (by have := HL.out; omega) HB.out (by omega) HR1.out hW1
end Go.Proofs.Ytpgdbhafdnfhcaa
