/- The heap's methods on sites near a place. -/
import Derived.Test.YtpgdbhafdnfhcaaSow
import Derived.Test.YtpgdbhafdnfhcaaHp
import Derived.LoopTactic
import Derived.IntWalk
import Derived.Deep.QuietTactic
import Derived.BigQuiet
import Derived.BigRegion
import Derived.Deep.RegionHeld3
import Derived.Outline
import Derived.Deep.DeepCutAuto
namespace Go.Proofs.Ytpgdbhafdnfhcaa
open Go.RowKit
set_option linter.unusedVariables false

/-- The square of the distance. -/
def far (c r : R3) : Int := (tX c - tX r) * (tX c - tX r) + (tY c - tY r) * (tY c - tY r)
/-- What tells which of two sites is the nearer one. -/
def kf (c r : R3) : Int := far c r * 16 + tS r
abbrev ag (r : R3) : Value := .agg #[.int .i64 (tS r), .int .i64 (tX r), .int .i64 (tY r)]
theorem sq_bd {d : Int} (h1 : -999 ≤ d) (h2 : d ≤ 999) : 0 ≤ d * d ∧ d * d ≤ 998001 := by
  have h : d * d = ((d.natAbs * d.natAbs : Nat) : Int) := (Int.natAbs_mul_self (a := d)).symm
  have h3 : d.natAbs ≤ 999 := by omega
  have h4 : d.natAbs * d.natAbs ≤ 999 * 999 := Nat.mul_le_mul h3 h3
  rw [h]; omega
theorem tB_bd {r : R3} (h : tB r = true) : (1 ≤ tS r ∧ tS r ≤ 9) ∧ (0 ≤ tX r ∧ tX r ≤ 999) ∧ (0 ≤ tY r ∧ tY r ≤ 999) := by
  simp [tB, inB] at h; omega
theorem far_bd {c r : R3} (hc : tB c = true) (hr : tB r = true) : 0 ≤ far c r ∧ far c r ≤ 1996002 := by
  have h1 := tB_bd hc
  have h2 := tB_bd hr
  have h3 := sq_bd (d := tX c - tX r) (by omega) (by omega)
  have h4 := sq_bd (d := tY c - tY r) (by omega) (by omega)
  unfold far; omega
theorem kf_lt {c a b : R3} (ha : tB a = true) (hb : tB b = true) : (kf c a < kf c b) ↔ (far c a < far c b ∨ (far c a = far c b ∧ tS a < tS b)) := by
  have h1 := tB_bd ha
  have h2 := tB_bd hb
  unfold kf; omega
set_option maxRecDepth 100000 in
set_option maxHeartbeats 1000000 in
theorem sqTo (c r : R3) (hc : tB c = true) (hr : tB r = true) (w : World) :
    Calls Try.prog 189 #[ag c, ag r] w fun e w' => e = .returned (.int .i64 (far c r)) ∧ Keep w w' := by
  have h1 := tB_bd hc
  have h2 := tB_bd hr
  have HF : Hid (far c r = (tX c - tX r) * (tX c - tX r) + (tY c - tY r) * (tY c - tY r)) := Lib.hid rfl
  unfold ag
  generalize tS c = s at *
  generalize tS r = s' at *
  generalize tX c = x at *
  generalize tX r = x' at *
  generalize tY c = y at *
  generalize tY r = y' at *
  obtain ⟨d, hd⟩ : ∃ d, x - x' = d := ⟨_, rfl⟩
  obtain ⟨f, hf⟩ : ∃ f, y - y' = f := ⟨_, rfl⟩
  rw [hd, hf] at HF
  have w1 : IntKind.i64.wrap (x - x') = d := by rw [hd]; exact IntWalk.i64_in _ ⟨by omega, by omega⟩
  have w2 : IntKind.i64.wrap (y - y') = f := by rw [hf]; exact IntWalk.i64_in _ ⟨by omega, by omega⟩
  have b1 := sq_bd (d := d) (by omega) (by omega)
  have b2 := sq_bd (d := f) (by omega) (by omega)
  obtain ⟨p, hp⟩ : ∃ p, d * d = p := ⟨_, rfl⟩
  obtain ⟨q, hq⟩ : ∃ q, f * f = q := ⟨_, rfl⟩
  rw [hp] at b1 HF
  rw [hq] at b2 HF
  have w3 : IntKind.i64.wrap (d * d) = p := by rw [hp]; exact IntWalk.i64_in _ ⟨by omega, by omega⟩
  have w4 : IntKind.i64.wrap (f * f) = q := by rw [hq]; exact IntWalk.i64_in _ ⟨by omega, by omega⟩
  have w5 : IntKind.i64.wrap (p + q) = p + q := IntWalk.i64_in _ ⟨by omega, by omega⟩
  have v1 : wrap64 d = d := IntWalk.wrap64_in _ ⟨by omega, by omega⟩
  have v2 : wrap64 f = f := IntWalk.wrap64_in _ ⟨by omega, by omega⟩
  have v3 : wrap64 p = p := IntWalk.wrap64_in _ ⟨by omega, by omega⟩
  have v4 : wrap64 q = q := IntWalk.wrap64_in _ ⟨by omega, by omega⟩
  have v5 : wrap64 (p + q) = p + q := IntWalk.wrap64_in _ ⟨by omega, by omega⟩
  clear h1 h2 hc hr
  go_enter Try.func189, Try.ntmps189
  go_wp2_with fail
  go_quiet (fail)
  go_wp2
  go_ret
  refine ⟨retI (by first | exact HF.out.symm | (rw [v1, v2, hp, hq, v3, v4, v5]; exact HF.out.symm) | (simp only [v1, v2, hp, hq, v3, v4, v5]; exact HF.out.symm)), ?_⟩
  first | exact (((Keep.refl w).alloc _).alloc _).drewN _ | exact ((Keep.refl w).alloc _).alloc _
/-- The struct nearSites in block P: the place c, and the slice v of sites. -/
structure Nr (w : World) (P : Nat) (v : Value) (c : R3) : Prop where
  at3 : At3 w P 0 c
  sl : w.cell? ⟨P, 3, none⟩ = some v
  fz : w.frozen? ⟨P, 3, none⟩ = false
theorem Nr.keep {w w' : World} {P : Nat} {v : Value} {c : R3} (h : Nr w P v c) (k : Keep w w') : Nr w' P v c := ⟨h.at3.keep k, k.cell h.sl, k.still h.sl h.fz⟩
theorem nlen_any (P n cap : Nat) (a : Option Addr) (c : R3) (w : World) (h : Nr w P (.slice a n cap) c) :
    Calls Try.prog 95 #[.pointer (some ⟨P, 0, none⟩)] w fun e w' => e = .returned (.int .i64 (n : Int)) ∧ w = w' := by
  have hs := h.sl
  go_enter Try.func95, Try.ntmps95
  go_wp2
  go_ret
  exact ⟨rfl, rfl⟩
theorem mPush (a : Option Addr) (w : World) : Sem.run Try.prog (method 299 112 (.pointer a) "Push") w = .ok (187, .pointer a) w := by kernel_rfl
theorem mLen (a : Option Addr) (w : World) : Sem.run Try.prog (method 299 112 (.pointer a) "Len") w = .ok (95, .pointer a) w := by kernel_rfl
theorem mLess (a : Option Addr) (w : World) : Sem.run Try.prog (method 299 112 (.pointer a) "Less") w = .ok (185, .pointer a) w := by kernel_rfl
theorem mSwap (a : Option Addr) (w : World) : Sem.run Try.prog (method 299 112 (.pointer a) "Swap") w = .ok (188, .pointer a) w := by kernel_rfl
theorem mPop (a : Option Addr) (w : World) : Sem.run Try.prog (method 299 112 (.pointer a) "Pop") w = .ok (186, .pointer a) w := by kernel_rfl
set_option maxRecDepth 100000 in
set_option maxHeartbeats 2000000 in
theorem less_any (P g n cap : Nat) (c : R3) (H : List R3) (i j : Nat) (w : World) (h : Nr w P (.slice (some ⟨g, 0, none⟩) n cap) c) (hW : Ss w (some ⟨g, 0, none⟩) H) (hn : H.length = n) (hi : i < n) (hj : j < n) (hn6 : n ≤ 6)
    (hc : tB c = true) (hB : ∀ r ∈ H, tB r = true) :
    Calls Try.prog 185 #[.pointer (some ⟨P, 0, none⟩), .int .i64 (i : Int), .int .i64 (j : Int)] w fun e w' => e = .returned (.bool (decide (kf c (H.getD i t0) < kf c (H.getD j t0)))) ∧ Keep w w' := by
  obtain ⟨a, ha⟩ : ∃ a, H.getD i t0 = a := ⟨_, rfl⟩
  obtain ⟨b, hb⟩ : ∃ b, H.getD j t0 = b := ⟨_, rfl⟩
  have hta := hB _ (ha ▸ tgetD_mem (show i < H.length by omega))
  have htb := hB _ (hb ▸ tgetD_mem (show j < H.length by omega))
  obtain ⟨b1, o1, he1, hb1, ⟨x0, x1, x2⟩⟩ := hW.at_ (show i < H.length by omega)
  injection he1 with he1
  injection he1 with e1 e2 _
  subst e1; subst e2
  obtain ⟨b2, o2, he2, hb2, ⟨y0, y1, y2⟩⟩ := hW.at_ (show j < H.length by omega)
  injection he2 with he2
  injection he2 with e3 e4 _
  subst e3; subst e4
  rw [ha] at x0 x1 x2 ⊢
  rw [hb] at y0 y1 y2 ⊢
  rw [Nat.zero_add] at x0 x1 x2 y0 y1 y2
  obtain ⟨⟨c0, c1, c2⟩, hsl, hfz⟩ := h
  have HA := Lib.hid (sqTo c a hc hta)
  have HB := Lib.hid (sqTo c b hc htb)
  have HK := Lib.hid (kf_lt (c := c) hta htb)
  unfold ag at HA HB
  clear ha hb hW hB hn
  generalize far c a = fa at *
  generalize far c b = fb at *
  have hP := World.block_lt_of_cell? w _ hsl
  have i0 : (0 : Int) ≤ (i : Int) := by omega
  have j0 : (0 : Int) ≤ (j : Int) := by omega
  have i1 : (i : Int) < (n : Int) := by omega
  have j1 : (j : Int) < (n : Int) := by omega
  go_enter Try.func185, Try.ntmps185
  go_upto_region 1 with fail
  go_cut [7, 8] (fun s7 s8 wx => ∃ p q : Nat, s7 = .pointer (some ⟨p, 0, none⟩) ∧ s8 = .pointer (some ⟨q, 0, none⟩) ∧ Keep w wx ∧ At3 wx p 0 a ∧ At3 wx q 0 b)
  case first =>
    go_region
    all_goals
      go_wp2_with fail
      go_meet
      exact ⟨_, _, rfl, rfl, by (repeat' (first | with_reducible assumption | with_reducible exact Keep.refl _ | with_reducible refine Keep.drew ?_ | with_reducible refine Keep.alloc ?_ _ | with_reducible refine Keep.setCell ?_ (Nat.le_refl _) _ | with_reducible refine Keep.trans ?_ hk)), ⟨by go_simp, by go_simp, by go_simp⟩, ⟨by go_simp, by go_simp, by go_simp⟩⟩
  case rest =>
    obtain ⟨p, q, rfl, rfl, k1, ⟨p0, p1, p2⟩, ⟨q0, q1, q2⟩⟩ := hcut
    replace c0 := k1.cell c0
    replace c1 := k1.cell c1
    replace c2 := k1.cell c2
    clear x0 x1 x2 y0 y1 y2 hsl hfz hP
    obtain ⟨W0, rfl⟩ : ∃ W0 : World, W0 = wc := ⟨_, rfl⟩
    go_upto_region 2 with fail
    go_cut [9, 10] (fun s9 s10 wx => s9 = .int .i64 fa ∧ s10 = .int .i64 fb ∧ Keep W0 wx)
    case first =>
      go_region_held3 (fun w' => Keep W0 w' ∧ w'.cell? ⟨P, 0, none⟩ = some (.int .i64 (tS c)) ∧ w'.cell? ⟨P, 1, none⟩ = some (.int .i64 (tX c)) ∧ w'.cell? ⟨P, 2, none⟩ = some (.int .i64 (tY c)) ∧ w'.cell? ⟨p, 0, none⟩ = some (.int .i64 (tS a)) ∧ w'.cell? ⟨p, 1, none⟩ = some (.int .i64 (tX a)) ∧ w'.cell? ⟨p, 2, none⟩ = some (.int .i64 (tY a)) ∧ w'.cell? ⟨q, 0, none⟩ = some (.int .i64 (tS b)) ∧ w'.cell? ⟨q, 1, none⟩ = some (.int .i64 (tX b)) ∧ w'.cell? ⟨q, 2, none⟩ = some (.int .i64 (tY b)))
        ((go_split_ands; refine (fun hK => ⟨hK, hK.cell c0, hK.cell c1, hK.cell c2, hK.cell p0, hK.cell p1, hK.cell p2, hK.cell q0, hK.cell q1, hK.cell q2⟩ : Keep W0 _ → _) ?_; (repeat' (first | with_reducible assumption | with_reducible exact Keep.refl _ | with_reducible refine Keep.drew ?_ | with_reducible refine Keep.alloc ?_ _ | with_reducible refine Keep.setCell ?_ (Nat.le_refl _) _ | with_reducible refine Keep.trans ?_ hk))))
        (first
        | (go_at_call 189; go_split_ands; (with_reducible refine (HA.out _).mono ?_); rintro e w' ⟨rfl, hk⟩; go_split_ands; have hK : Keep W0 w' := Keep.trans (by (repeat' (first | with_reducible assumption | with_reducible exact Keep.refl _ | with_reducible refine Keep.drew ?_ | with_reducible refine Keep.alloc ?_ _ | with_reducible refine Keep.setCell ?_ (Nat.le_refl _) _ | with_reducible refine Keep.trans ?_ hk))) hk)
        | (go_at_call 189; go_split_ands; (with_reducible refine (HB.out _).mono ?_); rintro e w' ⟨rfl, hk⟩; go_split_ands; have hK : Keep W0 w' := Keep.trans (by (repeat' (first | with_reducible assumption | with_reducible exact Keep.refl _ | with_reducible refine Keep.drew ?_ | with_reducible refine Keep.alloc ?_ _ | with_reducible refine Keep.setCell ?_ (Nat.le_refl _) _ | with_reducible refine Keep.trans ?_ hk))) hk))
      all_goals
        go_wp2_with fail
        go_meet
        exact ⟨rfl, rfl, by (repeat' (first | with_reducible assumption | with_reducible exact Keep.refl _ | with_reducible refine Keep.drew ?_ | with_reducible refine Keep.alloc ?_ _ | with_reducible refine Keep.setCell ?_ (Nat.le_refl _) _ | with_reducible refine Keep.trans ?_ hk))⟩
    case rest =>
      obtain ⟨rfl, rfl, k2⟩ := hcut
      have KK := k1.trans k2
      have r0 := k2.cell p0
      have r1 := k2.cell q0
      by_cases hf : fa = fb
      · have hfe : (fa != fb) = false := by simp [hf]
        have HE : Hid (decide (tS a < tS b) = decide (kf c a < kf c b)) := Lib.hid (decide_eq_decide.2 (by rw [HK.out]; omega))
        clear hf
        go_wp2
        go_ret
        exact ⟨retB HE.out, KK⟩
      · have hfe : (fa != fb) = true := bne_iff_ne.2 hf
        have HE : Hid (decide (fa < fb) = decide (kf c a < kf c b)) := Lib.hid (decide_eq_decide.2 (by rw [HK.out]; omega))
        go_wp2
        go_ret
        exact ⟨retB HE.out, KK⟩
set_option maxRecDepth 100000 in
set_option maxHeartbeats 4000000 in
theorem swap_w (P g n cap : Nat) (c a b : R3) (i j : Nat) (w : World) (h : Nr w P (.slice (some ⟨g, 0, none⟩) n cap) c) (hgP : g ≠ P) (hi : i < n) (hj : j < n) (hij : i ≠ j) (hn6 : n ≤ 6)
    (hA : At3 w g (i * 3) a) (hB : At3 w g (j * 3) b) (fA : Fr3 w g (i * 3)) (fB : Fr3 w g (j * 3)) :
    Calls Try.prog 188 #[.pointer (some ⟨P, 0, none⟩), .int .i64 (i : Int), .int .i64 (j : Int)] w fun e w' => e = .returned (.tuple #[]) ∧ ∃ m, w' = (put3 (put3 w g (i * 3) b) g (j * 3) a).drewN m := by
  obtain ⟨x0, x1, x2⟩ := hA
  obtain ⟨y0, y1, y2⟩ := hB
  obtain ⟨f0, f1, f2⟩ := fA
  obtain ⟨g0, g1, g2⟩ := fB
  have hsl := h.sl
  clear h
  have HP : Hid (put3 (put3 w g (i * 3) b) g (j * 3) a = (((((w.setCell ⟨g, i * 3, none⟩ (.int .i64 (tS b))).setCell ⟨g, i * 3 + 1, none⟩ (.int .i64 (tX b))).setCell ⟨g, i * 3 + 2, none⟩ (.int .i64 (tY b))).setCell ⟨g, j * 3, none⟩ (.int .i64 (tS a))).setCell ⟨g, j * 3 + 1, none⟩ (.int .i64 (tX a))).setCell ⟨g, j * 3 + 2, none⟩ (.int .i64 (tY a))) := Lib.hid rfl
  generalize tS a = a0 at *
  generalize tX a = a1 at *
  generalize tY a = a2 at *
  generalize tS b = d0 at *
  generalize tX b = d1 at *
  generalize tY b = d2 at *
  have s0 : ∀ v, (w.setCell ⟨g, i * 3, none⟩ v).cell? ⟨g, j * 3, none⟩ = some (.int .i64 d0) := fun v => (World.cell?_setCell_other _ _ _ _ (by intro e; simp only [Addr.mk.injEq] at e; omega)).trans y0
  have s1 : ∀ v, (w.setCell ⟨g, i * 3 + 1, none⟩ v).cell? ⟨g, j * 3 + 1, none⟩ = some (.int .i64 d1) := fun v => (World.cell?_setCell_other _ _ _ _ (by intro e; simp only [Addr.mk.injEq] at e; omega)).trans y1
  have s2 : ∀ v, (w.setCell ⟨g, i * 3 + 2, none⟩ v).cell? ⟨g, j * 3 + 2, none⟩ = some (.int .i64 d2) := fun v => (World.cell?_setCell_other _ _ _ _ (by intro e; simp only [Addr.mk.injEq] at e; omega)).trans y2
  have i0 : (0 : Int) ≤ (i : Int) := by omega
  have j0 : (0 : Int) ≤ (j : Int) := by omega
  have i1 : (i : Int) < (n : Int) := by omega
  have j1 : (j : Int) < (n : Int) := by omega
  go_enter Try.func188, Try.ntmps188
  go_wp2_with fail
  go_region
  go_wp2
  go_end0
  refine ⟨rfl, 1, ?_⟩
  rw [HP.out]
  rfl
set_option maxRecDepth 100000 in
set_option maxHeartbeats 4000000 in
theorem swap_one (P g n cap : Nat) (c a : R3) (i : Nat) (w : World) (h : Nr w P (.slice (some ⟨g, 0, none⟩) n cap) c) (hgP : g ≠ P) (hi : i < n) (hn6 : n ≤ 6)
    (hA : At3 w g (i * 3) a) (fA : Fr3 w g (i * 3)) :
    Calls Try.prog 188 #[.pointer (some ⟨P, 0, none⟩), .int .i64 (i : Int), .int .i64 (i : Int)] w fun e w' => e = .returned (.tuple #[]) ∧ ∃ m, w' = (put3 (put3 w g (i * 3) a) g (i * 3) a).drewN m := by
  obtain ⟨x0, x1, x2⟩ := hA
  obtain ⟨f0, f1, f2⟩ := fA
  have hsl := h.sl
  clear h
  have HP : Hid (put3 (put3 w g (i * 3) a) g (i * 3) a = (((((w.setCell ⟨g, i * 3, none⟩ (.int .i64 (tS a))).setCell ⟨g, i * 3 + 1, none⟩ (.int .i64 (tX a))).setCell ⟨g, i * 3 + 2, none⟩ (.int .i64 (tY a))).setCell ⟨g, i * 3, none⟩ (.int .i64 (tS a))).setCell ⟨g, i * 3 + 1, none⟩ (.int .i64 (tX a))).setCell ⟨g, i * 3 + 2, none⟩ (.int .i64 (tY a))) := Lib.hid rfl
  generalize tS a = a0 at *
  generalize tX a = a1 at *
  generalize tY a = a2 at *
  have i0 : (0 : Int) ≤ (i : Int) := by omega
  have i1 : (i : Int) < (n : Int) := by omega
  go_enter Try.func188, Try.ntmps188
  go_wp2_with fail
  go_region
  go_wp2
  go_end0
  refine ⟨rfl, 1, ?_⟩
  rw [HP.out]
  rfl
end Go.Proofs.Ytpgdbhafdnfhcaa
