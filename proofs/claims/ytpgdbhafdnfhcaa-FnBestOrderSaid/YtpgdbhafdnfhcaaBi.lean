/- CutsBest of the program: a map from first days to plans, filled from the last day on, and read back by the cuts. -/
import Derived.Test.YtpgdbhafdnfhcaaBm
import Derived.LoopTactic
import Derived.IntWalk
import Derived.Deep.RegionHeld3
import Derived.Outline
namespace Go.Proofs.Ytpgdbhafdnfhcaa
open Go.RowKit
set_option linter.unusedVariables false

theorem ownsMap_keep {H : Type} {P : Program} {k : TypeId} {R : Value → Option (DataW H × List MemPlace)} {w w' : World} {b n : Nat} {D : DataW H} (h : w.ownsMap P k R b n D) (kk : Keep w w') : w'.ownsMap P k R b n D :=
  h.kept (row := none) (⟨Below.os kk, Below.tape kk, Below.output kk, Below.size kk, fun i hi _ => Below.block kk i hi⟩ : w.grownBy w' none) (by simp)
set_option maxHeartbeats 1000000 in
theorem bt_any (c1 k1 n1 c2 k2 n2 : Int) (w : World) :
    Calls Try.prog 116 #[.agg #[.int .i64 c1, .int .i64 k1, .int .i64 n1], .agg #[.int .i64 c2, .int .i64 k2, .int .i64 n2]] w fun e w' => e = .returned (.bool (decide (c1 < c2 ∨ (c1 = c2 ∧ k1 < k2)))) ∧ Keep w w' := by
  by_cases h : c1 = c2
  · subst h
    have d : (c1 != c1) = false := by simp
    have HE : Hid (decide (k1 < k2) = decide (c1 < c1 ∨ (c1 = c1 ∧ k1 < k2))) := Lib.hid (by simp)
    rw [← HE.out]
    go_enter Try.func116, Try.ntmps116
    go_wp2
    go_ret
    exact ⟨rfl, ((Keep.refl w).alloc _).alloc _⟩
  · have d : (c1 != c2) = true := bne_iff_ne.2 h
    have HE : Hid (decide (c1 < c2) = decide (c1 < c2 ∨ (c1 = c2 ∧ k1 < k2))) := Lib.hid (by simp [h])
    go_enter Try.func116, Try.ntmps116
    go_wp2
    go_ret
    exact ⟨retB HE.out, ((Keep.refl w).alloc _).alloc _⟩
theorem zeroPl (w : World) : (zeroValue 105).run Try.prog w = .ok (.agg #[.int .i64 0, .int .i64 0, .int .i64 0]) w := by kernel_rfl
theorem lookPl {w : World} {B n : Nat} {D : DataW Unit} (h : w.ownsMap Try.prog 3 plE B n D) {x a b c : Int} (hx : -9223372036854775808 ≤ x ∧ x ≤ 9223372036854775807) (hD : D.atKey (.int .i64 x) plZ = plV a b c) :
    (Instr.lookup 102 (.map (some B)) (.int .i64 x) false).run Try.prog w = .ok (.agg #[.int .i64 a, .int .i64 b, .int .i64 c]) w := by
  obtain ⟨v, ps, hrun, hv⟩ := h.lookup lawInt Try.underlying102 (zeroPl w) (plE_mk 0 0 0) (keyInt x hx)
  rw [show D.atKey (.int .i64 x) (plV 0 0 0) = plV a b c from hD] at hv
  rw [plE_inv hv] at hrun
  exact hrun
/-- Which plans are in the map: those of day k and later. -/
def PlM (zs : List Int) (pr : Int) (w : World) (B m k : Nat) : Prop :=
  ∃ D : DataW Unit, w.ownsMap Try.prog 3 plE B m D ∧ ∀ c : Nat, k ≤ c → c < zs.length → D.atKey (.int .i64 (c : Int)) plZ = plD zs.length (bB zs pr c)
theorem PlM.keep {zs : List Int} {pr : Int} {w w' : World} {B m k : Nat} (h : PlM zs pr w B m k) (kk : Keep w w') : PlM zs pr w' B m k := by
  obtain ⟨D, h1, h2⟩ := h
  exact ⟨D, ownsMap_keep h1 kk, h2⟩
theorem PlM.look {zs : List Int} {pr : Int} {w : World} {B m k : Nat} (h : PlM zs pr w B m k) {c : Nat} (hk : k ≤ c) (hc : c < zs.length) (h8 : zs.length ≤ 8) :
    (Instr.lookup 102 (.map (some B)) (.int .i64 (c : Int)) false).run Try.prog w = .ok (.agg #[.int .i64 (bB zs pr c).1, .int .i64 (bB zs pr c).2.length, .int .i64 (hdN zs.length (bB zs pr c).2)]) w := by
  obtain ⟨D, h1, h2⟩ := h
  exact lookPl h1 (by omega) (h2 c hk hc)
theorem PlM.put {zs : List Int} {pr : Int} {w w' : World} {B m k : Nat} {D : DataW Unit} (h1 : w.ownsMap Try.prog 3 plE B m D) (h2 : ∀ c : Nat, k + 1 ≤ c → c < zs.length → D.atKey (.int .i64 (c : Int)) plZ = plD zs.length (bB zs pr c))
    (h3 : w'.ownsMap Try.prog 3 plE B (m + 1) (D.put (.int .i64 (k : Int)) (plD zs.length (bB zs pr k)))) : PlM zs pr w' B (m + 1) k := by
  refine ⟨_, h3, fun c hc hl => ?_⟩
  by_cases e : c = k
  · subst e
    exact Go.Maps.atKey_put_same h1.isMap (by unfold WideAt.IsKeyLit; trivial) _ _
  · rw [Go.Maps.atKey_put_other (by intro h; injection h with _ h; omega) _ _]
    exact h2 c (by omega) hl
theorem Keep.freshdB {w w' : World} {cs : Array Value} {T : Nat} (h : Keep ((w.alloc (.cells cs T)).drew) w') (i : Nat) : w'.frozen? ⟨w.heap.size, i, none⟩ = false := Keep.fresh (((Keep.refl (w.alloc (.cells cs T))).drew).trans h) i
/-- A plan's box. -/
def Bx (w : World) (B : Nat) (a b c : Int) : Prop := w.cell? ⟨B, 0, none⟩ = some (.int .i64 a) ∧ w.cell? ⟨B, 1, none⟩ = some (.int .i64 b) ∧ w.cell? ⟨B, 2, none⟩ = some (.int .i64 c) ∧ w.frozen? ⟨B, 0, none⟩ = false ∧ w.frozen? ⟨B, 1, none⟩ = false ∧ w.frozen? ⟨B, 2, none⟩ = false
theorem Bx.keep {w w' : World} {B : Nat} {a b c : Int} (h : Bx w B a b c) (k : Keep w w') : Bx w' B a b c := by
  obtain ⟨h0, h1, h2, f0, f1, f2⟩ := h
  exact ⟨k.cell h0, k.cell h1, k.cell h2, k.still h0 f0, k.still h1 f1, k.still h2 f2⟩
theorem Bx.put {w : World} {B : Nat} {a b c : Int} (h : Bx w B a b c) (x y z : Int) : Bx (((w.setCell ⟨B, 0, none⟩ (.int .i64 x)).setCell ⟨B, 1, none⟩ (.int .i64 y)).setCell ⟨B, 2, none⟩ (.int .i64 z)) B x y z := by
  obtain ⟨h0, h1, h2, f0, f1, f2⟩ := h
  have n01 : (⟨B, 0, none⟩ : Addr) ≠ ⟨B, 1, none⟩ := by intro h; injection h with _ h; omega
  have n02 : (⟨B, 0, none⟩ : Addr) ≠ ⟨B, 2, none⟩ := by intro h; injection h with _ h; omega
  have n12 : (⟨B, 1, none⟩ : Addr) ≠ ⟨B, 2, none⟩ := by intro h; injection h with _ h; omega
  have a1 : (w.setCell ⟨B, 0, none⟩ (.int .i64 x)).cell? ⟨B, 1, none⟩ = some (.int .i64 b) := by rw [World.cell?_setCell_other _ _ _ _ n01]; exact h1
  have a2 : (w.setCell ⟨B, 0, none⟩ (.int .i64 x)).cell? ⟨B, 2, none⟩ = some (.int .i64 c) := by rw [World.cell?_setCell_other _ _ _ _ n02]; exact h2
  have a3 : ((w.setCell ⟨B, 0, none⟩ (.int .i64 x)).setCell ⟨B, 1, none⟩ (.int .i64 y)).cell? ⟨B, 2, none⟩ = some (.int .i64 c) := by rw [World.cell?_setCell_other _ _ _ _ n12]; exact a2
  refine ⟨?_, ?_, World.cell?_setCell_same _ _ _ a3, by simpa using f0, by simpa using f1, by simpa using f2⟩
  · rw [World.cell?_setCell_other _ _ _ _ n02.symm, World.cell?_setCell_other _ _ _ _ n01.symm]; exact World.cell?_setCell_same _ _ _ h0
  · rw [World.cell?_setCell_other _ _ _ _ n12.symm]; exact World.cell?_setCell_same _ _ _ a1
set_option maxRecDepth 100000 in
set_option maxHeartbeats 8000000 in
theorem pl_map (b off cap : Nat) (zs : List Int) (pr : Int) (w : World) (h : Ls w (some ⟨b, off, none⟩) zs) (hs : cbOk zs pr = true) (hca : zs.length ≤ cap) :
    Calls Try.prog 78 #[.slice (some ⟨b, off, none⟩) zs.length cap, .int .i64 pr] w fun e w' => ∃ B, e = .returned (.map (some B)) ∧ PlM zs pr w' B 8 0 ∧ Keep w w' := by
  obtain ⟨hsh, ⟨l1, l8⟩, p0, p9⟩ := cbOk_facts hs
  have hmm := @run_makeMap Try.prog
  have HP : Hid (∀ p q : Nat, p < q → q ≤ zs.length → ∀ c W, Keep w W → Calls Try.prog 74 #[.slice (some ⟨b, off + p, none⟩) (q - p) c] W fun e w' => e = .returned (.int .i64 (bF zs p q)) ∧ Keep W w') := Lib.hid (fun p q hp hq c W k => by
    have e1 := seg_sh hsh hp hq
    have e2 := seg_len zs (Nat.le_of_lt hp) hq
    have := pc_impl (some ⟨b, off + p, none⟩) c (seg zs p q) W (ls_seg (h.keep k) p q) (by rw [e2]; omega)
    rwa [e2] at this)
  have HFB : Hid (∀ p q : Nat, p < q → q ≤ zs.length → 0 ≤ bF zs p q ∧ bF zs p q ≤ 176000) := Lib.hid (fun p q hp hq => pcV_bd (seg_sh hsh hp hq))
  have HBB : Hid (∀ p, p < zs.length → (0 ≤ (bB zs pr p).1 ∧ (bB zs pr p).1 ≤ 176000) ∧ (bB zs pr p).2.length + p < zs.length) := Lib.hid (fun p hp => bst_bd hsh p0 hp (bB_best pr hp))
  obtain ⟨n, hn⟩ : ∃ n, n = zs.length := ⟨_, rfl⟩
  have HN := Lib.hid hn
  rw [← hn] at HP HFB HBB l1 l8 hca ⊢
  clear h hs hsh hn
  go_enter Try.func78, Try.ntmps78
  go_wp2_with fail
  go_loopw [6] (fun i wr => ∃ k : Nat, k ≤ n ∧ i = .int .i64 ((k : Int) - 1) ∧ Hid (PlM zs pr wr w.heap.size (n - k) k) ∧ Keep w wr) (fun i _ => (intOf i + 1).toNat)
  case atStart =>
    exact ⟨n, by omega, by first | rfl | go_num, Lib.hid ⟨_, (World.ownsMap_made w _ _ _).mono (by omega), fun c hc hl => by have := HN.out; omega⟩, (Keep.refl w).alloc _⟩
  case round =>
    obtain ⟨k, hk, rfl, HM, hK⟩ := hrel
    by_cases hlt : 0 < k
    case' neg =>
      obtain rfl : k = 0 := by omega
      have HM2 : Hid (PlM zs pr wr w.heap.size 8 0) := Lib.hid (by
        obtain ⟨D, h1, h2⟩ := HM.out
        exact ⟨D, h1.mono (by omega), h2⟩)
      go_wp2
      go_ret
      exact ⟨_, rfl, HM2.out, hK⟩
    obtain ⟨p, rfl⟩ : ∃ p, k = p + 1 := ⟨k - 1, by omega⟩
    have hpk : ((p + 1 : Nat) : Int) - 1 = (p : Int) := by omega
    rw [hpk]
    obtain ⟨f0, f1⟩ := HFB.out p n (by omega) (Nat.le_refl _)
    have HC := Lib.hid (HP.out p n (by omega) (Nat.le_refl _))
    have HE : Hid (bF zs p n = bF zs p zs.length) := Lib.hid (by rw [HN.out])
    have q1 : (0 : Int) ≤ (p : Int) := by omega
    have q2 : (p : Int) ≤ (n : Int) := by omega
    have q3 : (n : Int) ≤ (cap : Int) := by omega
    have qc : ¬ cap = p := by omega
    generalize bF zs p n = fv at f0 f1 HC HE
    go_wp2_with fail
    refine (HC.out _ _ hK).mono ?_
    rintro e w1 ⟨rfl, k1⟩
    have hz1 := k1.size
    have HM1 := Lib.hid (HM.out.keep k1)
    have KW1 := hK.trans k1
    clear HM HC
    go_wp2_with fail
    go_loopw [8] (fun i wr2 => ∃ (q : Nat) (bb : Int × List Int), p < q ∧ q ≤ n ∧ i = .int .i64 (q : Int) ∧ Hid (Bsk (bF zs) zs.length pr p q bb) ∧ Hid (Bx wr2 w1.heap.size bb.1 bb.2.length (hdN n bb.2)) ∧ w1.heap.size < wr2.heap.size ∧ Keep w1 wr2) (fun i _ => n - (intOf i).toNat)
    case atStart =>
      refine ⟨p + 1, (fv, []), by omega, by omega, by first | rfl | go_num, Lib.hid (by rw [HE.out]; exact bsk_one _ _ _ _), Lib.hid ?_, by simp, (Keep.refl w1).alloc _⟩
      exact ⟨World.cell?_alloc_new w1 _ _ 0, World.cell?_alloc_new w1 _ _ 1, World.cell?_alloc_new w1 _ _ 2, World.frozen?_alloc_at _ _ _ _ rfl, World.frozen?_alloc_at _ _ _ _ rfl, World.frozen?_alloc_at _ _ _ _ rfl⟩
    case round =>
      obtain ⟨q, bb, hpq, hq, rfl, HB, HX, hlw, hK2⟩ := hrel
      obtain ⟨x0, x1, x2, y0, y1, y2⟩ := HX.out
      by_cases hqn : q < n
      · obtain ⟨g0, g1⟩ := HFB.out p q hpq (by omega)
        obtain ⟨⟨r0', r1'⟩, r2'⟩ := HBB.out q hqn
        have HCq := Lib.hid (HP.out p q hpq (by omega))
        have hlk := (HM1.out.keep hK2).look (c := q) (by omega) (by rw [← HN.out]; exact hqn) (by rw [← HN.out]; exact l8)
        rw [← HN.out] at hlk
        have HSB := Lib.hid (stp_best hpq (by rw [← HN.out]; exact hqn) HB.out (bB_best pr (by rw [← HN.out]; exact hqn)))
        generalize hg : bF zs p q = g at g0 g1 HCq HSB
        generalize bB zs pr q = r at hlk HSB r0' r1' r2'
        obtain ⟨rc, rl⟩ := r
        simp only at hlk HSB r0' r1' r2'
        obtain ⟨rk, hrk⟩ : ∃ rk : Nat, rl.length = rk := ⟨_, rfl⟩
        have HRK := Lib.hid hrk
        rw [hrk] at hlk r2'
        clear hrk hg
        generalize hdN n rl = rn at hlk
        obtain ⟨bc, blst⟩ := bb
        simp only at x0 x1 x2 HB HSB
        obtain ⟨bk, hbk⟩ : ∃ bk : Nat, blst.length = bk := ⟨_, rfl⟩
        have HBK := Lib.hid hbk
        rw [hbk] at x1
        clear hbk
        obtain ⟨bn, hbn⟩ : ∃ bn, hdN n blst = bn := ⟨_, rfl⟩
        have HBN := Lib.hid hbn
        rw [hbn] at x2
        clear hbn HX
        obtain ⟨dc, hdc⟩ : ∃ dc, g + pr + rc = dc := ⟨_, rfl⟩
        rw [hdc] at HSB
        have hw1 : IntKind.i64.wrap (g + pr) = g + pr := IntWalk.i64_in _ (by omega)
        have hw2 : IntKind.i64.wrap (g + pr + rc) = dc := by rw [IntWalk.i64_in _ (by omega)]; exact hdc
        have hw3 : IntKind.i64.wrap ((rk : Int) + 1) = (rk : Int) + 1 := IntWalk.i64_in _ (by omega)
        have hcase : ((decide (dc < bc ∨ (dc = bc ∧ (rk : Int) + 1 < (bk : Int)))) = true ∧ Hid (stp (bc, blst) (dc, (q : Int) :: rl) = (dc, (q : Int) :: rl))) ∨ ((decide (dc < bc ∨ (dc = bc ∧ (rk : Int) + 1 < (bk : Int)))) = false ∧ Hid (stp (bc, blst) (dc, (q : Int) :: rl) = (bc, blst))) := by
          have e : (dc < bc ∨ (dc = bc ∧ (rk : Int) + 1 < (bk : Int))) ↔ ((dc, (q : Int) :: rl).1 < (bc, blst).1 ∨ ((dc, (q : Int) :: rl).1 = (bc, blst).1 ∧ (dc, (q : Int) :: rl).2.length < (bc, blst).2.length)) := by
            simp only [List.length_cons, HRK.out, HBK.out]
            omega
          by_cases hx : (dc < bc ∨ (dc = bc ∧ (rk : Int) + 1 < (bk : Int)))
          · exact .inl ⟨decide_eq_true hx, Lib.hid (by unfold stp; rw [if_pos (e.1 hx)])⟩
          · exact .inr ⟨decide_eq_false hx, Lib.hid (by unfold stp; rw [if_neg (fun h => hx (e.2 h))])⟩
        have u1 : (0 : Int) ≤ (p : Int) := by omega
        have u2 : (p : Int) ≤ (q : Int) := by omega
        have u3 : (q : Int) ≤ (cap : Int) := by omega
        obtain ⟨W0, hW0⟩ : ∃ W0, W0 = wr.alloc (.cells #[.int .i64 rc, .int .i64 rk, .int .i64 rn] 105) := ⟨_, rfl⟩
        have e0 : W0.cell? ⟨wr.heap.size, 0, none⟩ = some (.int .i64 rc) := by rw [hW0]; exact (World.cell?_alloc_new wr _ _ 0)
        have e1 : W0.cell? ⟨wr.heap.size, 1, none⟩ = some (.int .i64 rk) := by rw [hW0]; exact (World.cell?_alloc_new wr _ _ 1)
        have hne1 : ¬ wr.heap.size = W0.heap.size := by have := World.block_lt_of_cell? W0 _ e0; simp at this; omega
        have hne2 : ¬ W0.heap.size = wr.heap.size := fun h => hne1 h.symm
        have hw4 : IntKind.i64.wrap dc = dc := IntWalk.i64_in _ (by omega)
        have K0 : Keep wr W0 := by rw [hW0]; exact (Keep.refl wr).alloc _
        have HK0 := Lib.hid ((KW1.trans hK2).trans K0)
        have HSa : ∀ W, Keep W0 W → (W.cell? ⟨wr.heap.size, 0, none⟩ = some (.int .i64 rc) ∧ W.cell? ⟨wr.heap.size, 1, none⟩ = some (.int .i64 rk)) := fun W kW => ⟨kW.cell e0, kW.cell e1⟩
        go_wp2_with fail
        rw [← hW0]
        clear hW0
        go_region_held3 (fun w' => w'.cell? ⟨wr.heap.size, 0, none⟩ = some (.int .i64 rc) ∧ w'.cell? ⟨wr.heap.size, 1, none⟩ = some (.int .i64 rk)) ((first | (go_simp; done) | exact HSa _ (Keep.refl _) | exact HSa _ ((Keep.refl _).drewN 1) | exact HSa _ kA | go_keep))
          (first
            | (go_at_call 74; refine (HCq.out _ _ (Keep.trans HK0.out (by (repeat' (first | with_reducible exact Keep.refl _ | with_reducible refine Keep.drew ?_ | with_reducible refine Keep.drewN ?_ _ | with_reducible refine Keep.alloc ?_ _))))).mono ?_; rintro e wA ⟨rfl, kA'⟩; have kA : Keep W0 wA := Keep.trans (by (repeat' (first | with_reducible exact Keep.refl _ | with_reducible refine Keep.drew ?_ | with_reducible refine Keep.drewN ?_ _ | with_reducible refine Keep.alloc ?_ _))) kA'; have s0 := (HSa _ kA).1; have s1 := (HSa _ kA).2; try (have z0 := Keep.newd (w := W0) kA' 0 (v := .int .i64 0) rfl; have z1 := Keep.newd (w := W0) kA' 1 (v := .int .i64 0) rfl; have z2 := Keep.newd (w := W0) kA' 2 (v := .int .i64 0) rfl; have v0 := Keep.freshdB (w := W0) kA' 0; have v1 := Keep.freshdB (w := W0) kA' 1; have v2 := Keep.freshdB (w := W0) kA' 2)))
        · obtain ⟨WD, hWD⟩ : ∃ WD, WD = wA.alloc (.cells #[.int .i64 dc, .int .i64 ((rk : Int) + 1), .int .i64 (q : Int)] 105) := ⟨_, rfl⟩
          obtain ⟨TD, hTD⟩ : ∃ TD, TD = wA.heap.size := ⟨_, rfl⟩
          have KD : Keep wr WD := by rw [hWD]; exact (K0.trans kA).alloc _
          have d0 : WD.cell? ⟨TD, 0, none⟩ = some (.int .i64 dc) := by rw [hWD, hTD]; exact World.cell?_alloc_new wA _ _ 0
          have d1 : WD.cell? ⟨TD, 1, none⟩ = some (.int .i64 ((rk : Int) + 1)) := by rw [hWD, hTD]; exact World.cell?_alloc_new wA _ _ 1
          have d2 : WD.cell? ⟨TD, 2, none⟩ = some (.int .i64 (q : Int)) := by rw [hWD, hTD]; exact World.cell?_alloc_new wA _ _ 2
          rw [← hWD, ← hTD]
          clear hWD hTD e0 e1 HSa s0 s1 hlk
          obtain ⟨x0', x1', x2', y0', y1', y2'⟩ := Bx.keep (⟨x0, x1, x2, y0, y1, y2⟩ : Bx wr w1.heap.size bc (bk : Int) bn) KD
          rcases hcase with ⟨hd, HS⟩ | ⟨hd, HS⟩
          · go_wp2_with fail
            refine (bt_any _ _ _ _ _ _ _).mono ?_
            rintro e w9 ⟨he, k9⟩
            rw [hd] at he
            subst he
            have d0' := k9.cell d0
            have d1' := k9.cell d1
            have d2' := k9.cell d2
            obtain ⟨x0'', x1'', x2'', y0'', y1'', y2''⟩ := Bx.keep (⟨x0', x1', x2', y0', y1', y2'⟩ : Bx WD w1.heap.size bc (bk : Int) bn) k9
            have HBX := Lib.hid (Bx.put (⟨x0'', x1'', x2'', y0'', y1'', y2''⟩ : Bx w9 w1.heap.size bc (bk : Int) bn) dc ((rk : Int) + 1) (q : Int))
            have HKF : Hid (Keep w1 (((w9.setCell ⟨w1.heap.size, 0, none⟩ (.int .i64 dc)).setCell ⟨w1.heap.size, 1, none⟩ (.int .i64 ((rk : Int) + 1))).setCell ⟨w1.heap.size, 2, none⟩ (.int .i64 (q : Int)))) := Lib.hid (((((hK2.trans KD).trans k9).setCell (Nat.le_refl _) _).setCell (Nat.le_refl _) _).setCell (Nat.le_refl _) _)
            have hlf : w1.heap.size < w9.heap.size := Nat.lt_of_lt_of_le (Nat.lt_of_lt_of_le hlw KD.size) k9.size
            go_wp2
            go_roundw
            case rel => exact ⟨q + 1, (dc, (q : Int) :: rl), by omega, by omega, by go_num, Lib.hid (by have h1 := HSB.out; rw [HS.out] at h1; exact h1), Lib.hid (by show Bx _ _ dc (((q : Int) :: rl).length : Int) (q : Int); rw [List.length_cons, HRK.out]; exact HBX.out), by simpa using hlf, HKF.out⟩
            case measure => simp [intOf]; omega
          · go_wp2_with fail
            refine (bt_any _ _ _ _ _ _ _).mono ?_
            rintro e w9 ⟨he, k9⟩
            rw [hd] at he
            subst he
            have HBX := Lib.hid (Bx.keep (⟨x0', x1', x2', y0', y1', y2'⟩ : Bx WD w1.heap.size bc (bk : Int) bn) k9)
            have HKF := Lib.hid ((hK2.trans KD).trans k9)
            have hlf : w1.heap.size < w9.heap.size := Nat.lt_of_lt_of_le (Nat.lt_of_lt_of_le hlw KD.size) k9.size
            go_wp2
            go_roundw
            case rel => exact ⟨q + 1, (bc, blst), by omega, by omega, by go_num, Lib.hid (by have h1 := HSB.out; rw [HS.out] at h1; exact h1), Lib.hid (by have h1 := HBX.out; rw [← HBK.out, ← HBN.out] at h1; exact h1), hlf, HKF.out⟩
            case measure => simp [intOf]; omega
        · obtain ⟨WD, hWD⟩ : ∃ WD, WD = (((wA.setCell ⟨W0.heap.size, 0, none⟩ (.int .i64 dc)).setCell ⟨W0.heap.size, 1, none⟩ (.int .i64 ((rk : Int) + 1))).setCell ⟨W0.heap.size, 2, none⟩ (.int .i64 (q : Int))) := ⟨_, rfl⟩
          obtain ⟨TD, hTD⟩ : ∃ TD, TD = W0.heap.size := ⟨_, rfl⟩
          have hk0 := K0.size
          have KD : Keep wr WD := by rw [hWD]; exact ((((K0.trans kA).setCell hk0 _).setCell hk0 _).setCell hk0 _)
          have hBX := Bx.put (⟨z0, z1, z2, v0, v1, v2⟩ : Bx wA W0.heap.size 0 0 0) dc ((rk : Int) + 1) (q : Int)
          rw [← hWD, ← hTD] at hBX
          obtain ⟨d0, d1, d2, -, -, -⟩ := hBX
          rw [← hWD, ← hTD]
          clear hWD hTD e0 e1 HSa s0 s1 hlk z0 z1 z2 v0 v1 v2 hk0
          obtain ⟨x0', x1', x2', y0', y1', y2'⟩ := Bx.keep (⟨x0, x1, x2, y0, y1, y2⟩ : Bx wr w1.heap.size bc (bk : Int) bn) KD
          rcases hcase with ⟨hd, HS⟩ | ⟨hd, HS⟩
          · go_wp2_with fail
            refine (bt_any _ _ _ _ _ _ _).mono ?_
            rintro e w9 ⟨he, k9⟩
            rw [hd] at he
            subst he
            have d0' := k9.cell d0
            have d1' := k9.cell d1
            have d2' := k9.cell d2
            obtain ⟨x0'', x1'', x2'', y0'', y1'', y2''⟩ := Bx.keep (⟨x0', x1', x2', y0', y1', y2'⟩ : Bx WD w1.heap.size bc (bk : Int) bn) k9
            have HBX := Lib.hid (Bx.put (⟨x0'', x1'', x2'', y0'', y1'', y2''⟩ : Bx w9 w1.heap.size bc (bk : Int) bn) dc ((rk : Int) + 1) (q : Int))
            have HKF : Hid (Keep w1 (((w9.setCell ⟨w1.heap.size, 0, none⟩ (.int .i64 dc)).setCell ⟨w1.heap.size, 1, none⟩ (.int .i64 ((rk : Int) + 1))).setCell ⟨w1.heap.size, 2, none⟩ (.int .i64 (q : Int)))) := Lib.hid (((((hK2.trans KD).trans k9).setCell (Nat.le_refl _) _).setCell (Nat.le_refl _) _).setCell (Nat.le_refl _) _)
            have hlf : w1.heap.size < w9.heap.size := Nat.lt_of_lt_of_le (Nat.lt_of_lt_of_le hlw KD.size) k9.size
            go_wp2
            go_roundw
            case rel => exact ⟨q + 1, (dc, (q : Int) :: rl), by omega, by omega, by go_num, Lib.hid (by have h1 := HSB.out; rw [HS.out] at h1; exact h1), Lib.hid (by show Bx _ _ dc (((q : Int) :: rl).length : Int) (q : Int); rw [List.length_cons, HRK.out]; exact HBX.out), by simpa using hlf, HKF.out⟩
            case measure => simp [intOf]; omega
          · go_wp2_with fail
            refine (bt_any _ _ _ _ _ _ _).mono ?_
            rintro e w9 ⟨he, k9⟩
            rw [hd] at he
            subst he
            have HBX := Lib.hid (Bx.keep (⟨x0', x1', x2', y0', y1', y2'⟩ : Bx WD w1.heap.size bc (bk : Int) bn) k9)
            have HKF := Lib.hid ((hK2.trans KD).trans k9)
            have hlf : w1.heap.size < w9.heap.size := Nat.lt_of_lt_of_le (Nat.lt_of_lt_of_le hlw KD.size) k9.size
            go_wp2
            go_roundw
            case rel => exact ⟨q + 1, (bc, blst), by omega, by omega, by go_num, Lib.hid (by have h1 := HSB.out; rw [HS.out] at h1; exact h1), Lib.hid (by have h1 := HBX.out; rw [← HBK.out, ← HBN.out] at h1; exact h1), hlf, HKF.out⟩
            case measure => simp [intOf]; omega
      · obtain rfl : q = n := by omega
        have hbe := bst_one (bsk_bst (by have h1 := HB.out; rw [HN.out] at h1; exact h1)) (bB_best (zs := zs) pr (p := p) (by rw [← HN.out]; omega))
        obtain ⟨D, hD1, hD2⟩ := HM1.out.keep hK2
        have HD2 := Lib.hid hD2
        have hmn : q - (p + 1) + 1 = q - p := by omega
        have HPD : Hid (plD q bb = plD zs.length (bB zs pr p)) := Lib.hid (by rw [hbe, HN.out])
        have hpl : plE (.agg #[.int .i64 bb.1, .int .i64 (bb.2.length : Int), .int .i64 (hdN q bb.2)]) = some (plD q bb, []) := rfl
        have HKL := Lib.hid (KW1.trans hK2)
        clear hbe hD2 HB HX HM1
        generalize plD q bb = pd at hpl HPD
        obtain ⟨bc, blst⟩ := bb
        simp only at x0 x1 x2 hpl
        generalize (blst.length : Int) = bk at x1 hpl
        generalize hdN q blst = bn at x2 hpl
        go_wp2_with (at_mapUpdate; refine wpList_mapUpdate_own _ rfl _ _ _ 102 rfl 3 105 lawInt Try.underlying102 plE _ _ _ rfl hD1 (by unfold maxLen; omega) _ _ (.int .i64 (p : Int)) rfl rfl (keyInt _ (by omega)) pd [] hpl ?_; intro w5 hown5 hgrow5)
        have HP5 : Hid (PlM zs pr w5 w.heap.size (q - p) p) := Lib.hid (by rw [← hmn]; exact PlM.put hD1 HD2.out (by rw [← HPD.out]; exact hown5))
        have HK5 : Hid (Keep w w5) := Lib.hid (Below.grown HKL.out hgrow5 HKL.out.size (fun j hj => by cases hj; exact Nat.le_refl _))
        clear hown5 hgrow5
        go_wp2
        go_roundw
        case rel => exact ⟨p, by omega, by go_num, HP5, HK5.out⟩
        case measure => first | (simp [intOf]; done) | (simp [intOf]; omega)
theorem fldPl (a b c : Int) (W : World) : Sem.run Try.prog (Instr.field 105 (.agg #[.int .i64 a, .int .i64 b, .int .i64 c]) 2) W = .ok (.int .i64 c) W := by kernel_rfl
/-- What is left of the cuts from a day on. -/
theorem cb_next {zs : List Int} {pr : Int} {p : Nat} (hp : p < zs.length) : ∃ (d : Nat) (R : List Int), hdN zs.length (bB zs pr p).2 = (d : Int) ∧ p < d ∧ d ≤ zs.length ∧ (bB zs pr p).2 = R ∧ (d = zs.length → R = []) ∧ (d < zs.length → R = (d : Int) :: (bB zs pr d).2) := by
  rcases bB_next (pr := pr) hp with ⟨h1, h2⟩ | ⟨d, h1, h2, h3, h4⟩
  · exact ⟨zs.length, _, h2, hp, Nat.le_refl _, rfl, fun _ => h1, fun h => absurd h (Nat.lt_irrefl _)⟩
  · exact ⟨d, _, h4, h1, Nat.le_of_lt h2, rfl, fun h => by omega, fun _ => h3⟩
set_option maxRecDepth 100000 in
set_option maxHeartbeats 8000000 in
theorem cb_impl (a : Option Addr) (cap : Nat) (zs : List Int) (pr : Int) (w : World) (h : Ls w a zs) (hm : zs.length ≤ 1048576) (hca : zs.length ≤ cap) :
    Calls Try.prog 30 #[.slice a zs.length cap, .int .i64 pr] w (NwB (cbL zs pr) (cbOk zs pr) w) := by
  have HS := Lib.hid (shv_impl a cap zs w h hm)
  have HI := Lib.hid (fun W => pv_any pr W)
  rcases Bool.eq_false_or_eq_true (shB zs) with q1 | q1
  case' inr =>
    have hb : cbOk zs pr = false := by rw [cbOk, q1]; rfl
    have H := Lib.hid (fun W (k : Keep w W) => nwb_no (b := cbOk zs pr) (cbL_no hb) hb none 0 k)
    rw [q1] at HS
    clear q1 hb
    go_enter Try.func30, Try.ntmps30
    go_wp2_with (go_at_call 71; refine HS.out.mono ?_; rintro e w1 ⟨rfl, rfl⟩)
    go_ret2
    exact H.out _ (Keep.refl _)
  rcases Bool.eq_false_or_eq_true (inB pr 0 9999) with q3 | q3
  case' inr =>
    have hb : cbOk zs pr = false := by rw [cbOk, q1, q3]; rfl
    have H := Lib.hid (fun W (k : Keep w W) => nwb_no (b := cbOk zs pr) (cbL_no hb) hb none 0 k)
    rw [q1] at HS
    rw [q3] at HI
    clear q1 q3 hb
    go_enter Try.func30, Try.ntmps30
    go_wp2_with (first | (go_at_call 71; refine HS.out.mono ?_; rintro e w1 ⟨rfl, rfl⟩) | (go_at_call 72; refine (HI.out _).mono ?_; rintro e w1 ⟨rfl, rfl⟩))
    go_ret2
    exact H.out _ (Keep.refl _)
  have hb : cbOk zs pr = true := by rw [cbOk, q1, q3]; rfl
  obtain ⟨_, ⟨l1, l8⟩, _, _⟩ := cbOk_facts hb
  obtain ⟨b, off, rfl, hbl, _⟩ := h.at_ (show 0 < zs.length by omega)
  have HPL := Lib.hid (pl_map b off cap zs pr w h hb hca)
  have HO := Lib.hid (cbL_yes hb)
  have HB := Lib.hid hb
  have HNX : Hid (∀ p, p < zs.length → ∃ (d : Nat) (R : List Int), hdN zs.length (bB zs pr p).2 = (d : Int) ∧ p < d ∧ d ≤ zs.length ∧ (bB zs pr p).2 = R ∧ (d = zs.length → R = []) ∧ (d < zs.length → R = (d : Int) :: (bB zs pr d).2)) := Lib.hid (fun p hp => cb_next hp)
  have HLK : Hid (∀ W B, PlM zs pr W B 8 0 → ∀ p : Nat, p < zs.length → (Instr.lookup 102 (.map (some B)) (.int .i64 (p : Int)) false).run Try.prog W = .ok (.agg #[.int .i64 (bB zs pr p).1, .int .i64 (bB zs pr p).2.length, .int .i64 (hdN zs.length (bB zs pr p).2)]) W) := Lib.hid (fun W B hM p hp => hM.look (Nat.zero_le _) hp l8)
  obtain ⟨i0, hi0, hz0, hz1, hz2⟩ := info_parts infoIntO
  have hfd := fldPl
  rw [q1] at HS
  rw [q3] at HI
  clear q1 q3 hb h
  obtain ⟨n, hn⟩ : ∃ n, n = zs.length := ⟨_, rfl⟩
  rw [← hn] at HS HPL HNX HLK l1 l8 hm hca ⊢
  clear hn
  go_enter Try.func30, Try.ntmps30
  go_wp2_with fail
  refine HS.out.mono ?_
  rintro e w1 ⟨rfl, rfl⟩
  go_wp2_with fail
  refine (HI.out _).mono ?_
  rintro e w1 ⟨rfl, rfl⟩
  go_wp2_with fail
  refine HPL.out.mono ?_
  rintro e w1 ⟨B, rfl, hM, k1⟩
  obtain ⟨d0, R0, e0, g0, g1, g2, g3, g4⟩ := HNX.out 0 (by omega)
  have hlk := HLK.out w1 B hM 0 (by omega)
  rw [e0, show ((0 : Nat) : Int) = 0 from rfl] at hlk
  have HA0 := Lib.hid (show cbL zs pr = [] ++ R0 by rw [HO.out, g2]; rfl)
  have H3 := Lib.hid g3
  have H4 := Lib.hid g4
  have HM := Lib.hid hM
  have hz1' := k1.size
  clear e0 g0 g2 g3 g4 hM HPL HS HI HO
  generalize (bB zs pr 0).1 = t1 at hlk
  generalize ((bB zs pr 0).2.length : Int) = t2 at hlk
  go_wp2_with fail
  go_loopw [7, 8] (fun u i wr => ∃ (d : Nat) (A R : List Int) (x : Option Addr) (c : Nat), d ≤ n ∧ i = .int .i64 (d : Int) ∧ u = .slice x A.length c ∧ Hid (cbL zs pr = A ++ R) ∧ Hid (d = n → R = []) ∧ Hid (d < n → R = (d : Int) :: (bB zs pr d).2) ∧ A.length ≤ d ∧ Hid (OwI wr w1.heap.size (.slice x A.length c) A) ∧ Keep w1 wr) (fun _ i _ => n - (intOf i).toNat)
  case atStart => exact ⟨d0, [], R0, none, 0, g1, rfl, rfl, HA0, H3, H4, by simp, Lib.hid (OwI.nil _ _), Keep.refl _⟩
  case round =>
    obtain ⟨d, A, R, x, c, hd, rfl, rfl, HA, H3, H4, hAl, HW, hK⟩ := hrel
    clear hlk
    by_cases hlt : d < n
    · obtain ⟨d', R', e0, g0, g1, g2, g3, g4⟩ := HNX.out d hlt
      have HA2 : Hid (cbL zs pr = (A ++ [(d : Int)]) ++ R') := Lib.hid (by rw [HA.out, H4.out hlt, g2]; simp)
      have H3' := Lib.hid g3
      have H4' := Lib.hid g4
      have HLK' := Lib.hid (fun W (k : Keep w1 W) => by
        have h9 := HLK.out W B (HM.out.keep k) d hlt
        rw [e0] at h9
        exact h9)
      have hzr := hK.size
      clear e0 g2 g3 g4
      generalize (bB zs pr d).1 = t1 at HLK'
      generalize ((bB zs pr d).2.length : Int) = t2 at HLK'
      obtain ⟨m, hm'⟩ : ∃ m, A.length = m := ⟨_, rfl⟩
      have HML := Lib.hid hm'
      have hown : wr.ownsRow w1.heap.size 3 1 (.slice x m c) m (A.map (Value.int .i64)) := by rw [← hm']; exact HW.out
      rw [hm'] at hAl ⊢
      clear hm' HW
      go_wp2_with (at_builtin; refine wpList_append_own _ rfl _ _ 43 rfl w1.heap.size 3 i0 (.int .i64 0) 1 8 Try.underlying43 hi0 hz0 hz1 hz2 rfl (by decide) _ _ _ rfl (hown.alloc _) ⟨wr.heap.size, 0, none⟩ 1 1 [.int .i64 (d : Int)] rfl rfl ?c1a ?c2a ?c3a ?c4a ?c5a ?_)
      try case c1a =>
        intro j u hj
        match j, hj with
        | 0, hj => simp at hj; subst hj; simp [Addr.add]
      case c2a => first | rfl | (intro u hu; simp at hu; subst hu; rfl)
      case c3a => unfold maxLen; omega
      case c4a => omega
      case c5a => first | omega | (simp; omega)
      intro v' w9 hown' hgrow hnil
      have HK2 : Hid (Keep w1 w9) := Lib.hid (Below.grown (hK.alloc (.cells #[.int .i64 (d : Int)] 3)) hgrow (hK.alloc (.cells #[.int .i64 (d : Int)] 3)).size (fun q hq => (hown.lt q hq).1))
      obtain ⟨g', c', rfl, hbg, hlg⟩ := hown'.form (by omega)
      have HN : Hid (OwI w9 w1.heap.size (.slice (some ⟨g', 0, none⟩) (A ++ [(d : Int)]).length c') (A ++ [(d : Int)])) := Lib.hid (by unfold OwI; rw [List.length_append, List.length_singleton, HML.out]; simpa using hown')
      have hlk := HLK'.out w9 HK2.out
      clear hown' hgrow hnil hown
      go_wp2
      go_roundw
      case rel => exact ⟨d', A ++ [(d : Int)], R', some ⟨g', 0, none⟩, c', g1, rfl, by rw [List.length_append, List.length_singleton, HML.out], HA2, H3', H4', by rw [List.length_append, List.length_singleton, HML.out]; omega, HN, HK2.out⟩
      case measure => simp [intOf]; omega
    · obtain rfl : d = n := by omega
      have HR : Hid (cbL zs pr = A) := Lib.hid (by rw [HA.out, H3.out rfl, List.append_nil])
      go_wp2
      go_ret2
      have h9 := HW.out
      rw [← HR.out] at h9 ⊢
      exact nwb_own h9 HB.out hz1' (k1.trans hK)
end Go.Proofs.Ytpgdbhafdnfhcaa
