/- HistoryOf: the program answers as its model; its answer is new memory. -/
import Derived.Test.YtlaajompcbmdoabVh1
import Derived.Test.YtlaajompcbmdoabVh2
import Derived.Test.YtlaajompcbmdoabKy
import Derived.Test.YtlaajompcbmdoabMg
import Derived.Test.YtlaajompcbmdoabMf
import Derived.Test.YtlaajompcbmdoabFr
import Derived.Deep.RegionHeld3
import Derived.Outline
namespace Go.Proofs.Ytlaajompcbmdoab
open Go.RowKit
set_option linter.unusedVariables false

theorem hsL_len (rs : List R4) (s d t : Int) : (hsL rs s d t).length ≤ 40 := by
  cases h : stB rs
  · rw [hsL_no h]; simp
  · rw [hsL_yes h]; exact Nat.le_trans (hsN_len rs s d t _) (stB_facts h).2

set_option maxRecDepth 100000 in
set_option maxHeartbeats 4000000 in
theorem walk_FnExactHistoryOf (a0 : Option Addr) (len0 cap0 : Nat) (z0 : Nat → Nat → Int) (z1 : Nat → Int) (w : World) (w0 : IsRows 4 w a0 len0 cap0 z0) (w1 : ∀ j, j < 3 → (Lit.int .i64 (z1 j)).wf = true) :
    Calls Try.prog 3 #[.slice a0 len0 cap0, .agg #[.int .i64 (z1 0), .int .i64 (z1 1), .int .i64 (z1 2)]] w fun e w' => e = .returned (.bool true) ∧ Below w.heap.size w w' := by
  obtain ⟨y0, hl0, hL0, ⟨hm0, hM0⟩⟩ := rs_of_rows w0
  subst hl0
  clear w0 w1
  generalize z1 0 = s, z1 1 = d, z1 2 = t
  unfold maxLen at hM0
  by_cases h0 : y0.length ≤ 1048576
  case' neg =>
    go_enter Try.func3, Try.ntmps3
    go_wp2_with (go_at_call 15; refine (sz_big _ _ _ _ (by omega) (by omega)).mono ?_; rintro e w' ⟨rfl, rfl⟩)
    go_ret
    exact ⟨rfl, (Below.refl _ _).alloc (Nat.le_refl _) _⟩
  have hd0 : decide (1048576 - (y0.length : Int) < 0) = false := by simp; omega
  go_enter Try.func3, Try.ntmps3
  go_wp2_with fail
  refine (sz_any _ _ _ _ h0).mono ?_
  rintro e w' ⟨rfl, rfl⟩
  have HZ : (hsL y0 s d t).length ≤ 1048576 := Nat.le_trans (hsL_len y0 s d t) (by omega)
  obtain ⟨W0, hW0⟩ : ∃ W0, W0 = w.alloc (.cells #[.int .i64 s, .int .i64 d, .int .i64 t] 24) := ⟨_, rfl⟩
  have p0 : W0.cell? ⟨w.heap.size, 0, none⟩ = some (.int .i64 s) := by rw [hW0]; go_simp
  have p1 : W0.cell? ⟨w.heap.size, 1, none⟩ = some (.int .i64 d) := by rw [hW0]; go_simp
  have p2 : W0.cell? ⟨w.heap.size, 2, none⟩ = some (.int .i64 t) := by rw [hW0]; go_simp
  have K0 : Keep w W0 := by rw [hW0]; exact (Keep.refl w).alloc _
  go_wp2_with fail
  rw [← hW0]
  clear hW0
  have HSa : ∀ W, Keep W0 W → (W.cell? ⟨w.heap.size, 0, none⟩ = some (.int .i64 s) ∧ W.cell? ⟨w.heap.size, 1, none⟩ = some (.int .i64 d) ∧ W.cell? ⟨w.heap.size, 2, none⟩ = some (.int .i64 t)) := fun W k => ⟨k.cell p0, k.cell p1, k.cell p2⟩
  go_region_held3 (fun w' => w'.cell? ⟨w.heap.size, 0, none⟩ = some (.int .i64 s) ∧ w'.cell? ⟨w.heap.size, 1, none⟩ = some (.int .i64 d) ∧ w'.cell? ⟨w.heap.size, 2, none⟩ = some (.int .i64 t)) ((first | (go_simp; done) | exact HSa _ (Keep.refl _) | exact HSa _ ((Keep.refl _).drewN 1) | exact HSa _ kq1 | exact HSa _ kq01 | exact HSa _ kq2 | go_keep))
    (first
      | (go_at_call 17; refine (toR_any _ _ y0 _ (hL0.keep (K0.drewN 1)) h0).mono ?_; rintro e w1 ⟨g1, hg1, rfl, hW1, kq1', hl_k1⟩; have kq1 : Keep W0 w1 := Keep.trans ((Keep.refl W0).drewN 1) kq1')
      | (go_at_call 18; refine (toKey3 s d t _).mono ?_; rintro e w01 ⟨rfl, kq01'⟩; have kq01 : Keep W0 w01 := Keep.trans kq1 kq01')
      | (go_at_call 16; refine (hs_spec _ _ y0 s d t _ (hW1.keep kq01').rs (by omega) (by omega)).mono ?_; rintro e w2 ⟨p2x, q2, rfl, hF2, kq2'⟩; have kq2 : Keep W0 w2 := Keep.trans kq01 kq2'))
  have P0 := kq2.cell p0
  have P1 := kq2.cell p1
  have P2 := kq2.cell p2
  have c2 : Keep w w2 := K0.trans kq2
  have s2 := c2.size
  go_wp2_with fail
  refine (toR_any _ _ y0 _ (hL0.keep c2) h0).mono ?_
  rintro e w3 ⟨g3, hg3, rfl, hW3, k3, hl_k3⟩
  have c3 : Keep w w3 := Keep.trans c2 k3
  have L3 := hF2.ls.keep k3
  have lo3 : Lo g3 p2x _ := hF2.ls.lo.mono hg3
  have Q0 := k3.cell P0
  have Q1 := k3.cell P1
  have Q2 := k3.cell P2
  go_wp2_with fail
  refine (toKey3 s d t _).mono ?_
  rintro e w03 ⟨rfl, k03'⟩
  have k03 : Keep w3 w03 := k03'
  go_wp2_with fail
  refine (hs_impl _ _ y0 s d t _ (hW3.keep k03).rs (by omega)).mono ?_
  rintro e w4 ⟨p4, q4, rfl, hF4', k4'⟩
  have k4 : Keep w3 w4 := k03.trans k4'
  have hF4 : Fresh w3 w4 p4 (hsL y0 s d t) := by
    rcases hF4' with h | ⟨g, h1, h2, h3, h4⟩
    · exact .inl h
    · exact .inr ⟨g, h1, Nat.le_trans k03.size h2, h3, h4⟩
  have c4 : Keep w w4 := Keep.trans c3 k4
  have L4 := L3.keep k4
  go_wp2_with fail
  refine (eqI_same _ _ _ _ _ _ hF4.ls L4 HZ).mono ?_
  rintro e w5 ⟨rfl, n5, rfl⟩
  have c5 := c4.drewN n5
  have k5 := (Keep.refl w4).drewN n5
  go_wp2_with fail
  refine (toR_any _ _ y0 _ (hL0.keep c5) h0).mono ?_
  rintro e w6 ⟨g6, hg6, rfl, hW6, k6, hl_k6⟩
  have c6 : Keep w w6 := Keep.trans c5 k6
  have hx := ((hW3.keep k4).keep k5).keep k6
  go_wp2_with fail
  refine (eqR_same _ _ _ _ y0 _ hx.rs hW6.rs h0).mono ?_
  rintro e w7 ⟨rfl, k7⟩
  have c7 : Keep w w7 := Keep.trans c6 k7
  have L7 := ((L4.keep k5).keep k6).keep k7
  have F7 := ((hF4.keep k5).keep k6).keep k7
  have R7 := hx.keep k7
  go_wp2_with fail
  refine (markR g3 _ y0 _ R7 h0).mono ?_
  rintro e w8 ⟨rfl, ho8, _⟩
  have c8 : Keep w w8 := Keep.trans' c7 ho8 (by omega)
  have L8 := L7.only lo3 ho8
  have s3 := k3.size
  have s37 := ((k4.trans k5).trans k6).trans k7 |>.size
  have F8 : Fresh w3 w8 p4 (hsL y0 s d t) := F7.only ho8 hl_k3
  have hwk : w.heap.size < w2.heap.size := World.block_lt_of_cell? w2 _ P0
  have hgk : w.heap.size ≠ g3 := by omega
  have kk7 := ((k4.trans k5).trans k6).trans k7
  have hlk7 : w.heap.size < w7.heap.size := by have := (k3.trans kk7).size; omega
  have G0 := (ho8.cell w.heap.size 0 hlk7 hgk).trans (kk7.cell Q0)
  have G1 := (ho8.cell w.heap.size 1 hlk7 hgk).trans (kk7.cell Q1)
  have G2 := (ho8.cell w.heap.size 2 hlk7 hgk).trans (kk7.cell Q2)
  have dk : decide (1 + 4 * (y0.length : Int) < 0) = false := by simp; omega
  go_wp2_with fail
  refine (eqI_same _ _ _ _ _ _ F8.ls L8 HZ).mono ?_
  rintro e w9 ⟨rfl, n9, rfl⟩
  have c9 := c8.drewN n9
  have F9 := F8.drewN n9
  have L9 := L8.drewN n9
  go_wp2_with fail
  refine (markF _ _ _ w3 _ F9 HZ).mono ?_
  rintro e w10 ⟨rfl, hb10, ys, hy, hYs, hMk⟩
  have s39 : w3.heap.size ≤ w8.heap.size := Nat.le_trans s37 ho8.size
  have b10 : Below w3.heap.size (w8.drewN n9) w10 := hb10 s39
  have sw3 := c3.size
  have c10 : Keep w w10 := Below.trans c9 (b10.mono sw3)
  have L10 := L9.below (lo3.mono (show g3 ≤ w3.heap.size from Nat.le_of_lt hl_k3)) b10
  have dm : decide (1 + ((hsL y0 s d t).length : Int) < 0) = false := by simp; omega
  have HH := Lib.hid (heldI p4 q4 ys w10 hYs hMk (by rw [hy]; exact HZ))
  rw [hy] at HH
  go_wp2_with fail
  refine HH.out.mono ?_
  rintro e w' ⟨rfl, rfl⟩
  have B0 : w10.cell? ⟨w.heap.size, 0, none⟩ = some (.int .i64 s) := by
    rw [b10.cell (p := ⟨w.heap.size, 0, none⟩) (Nat.lt_of_lt_of_le hwk (by omega))]; exact G0
  have B1 : w10.cell? ⟨w.heap.size, 1, none⟩ = some (.int .i64 d) := by
    rw [b10.cell (p := ⟨w.heap.size, 1, none⟩) (Nat.lt_of_lt_of_le hwk (by omega))]; exact G1
  have B2 : w10.cell? ⟨w.heap.size, 2, none⟩ = some (.int .i64 t) := by
    rw [b10.cell (p := ⟨w.heap.size, 2, none⟩) (Nat.lt_of_lt_of_le hwk (by omega))]; exact G2
  clear p0 p1 p2 HSa
  have p0 := B0
  have p1 := B1
  have p2 := B2
  have HSb : ∀ W, Keep w10 W → (W.cell? ⟨w.heap.size, 0, none⟩ = some (.int .i64 s) ∧ W.cell? ⟨w.heap.size, 1, none⟩ = some (.int .i64 d) ∧ W.cell? ⟨w.heap.size, 2, none⟩ = some (.int .i64 t)) := fun W k => ⟨k.cell p0, k.cell p1, k.cell p2⟩
  go_wp2_with fail
  go_region_held3 (fun w' => w'.cell? ⟨w.heap.size, 0, none⟩ = some (.int .i64 s) ∧ w'.cell? ⟨w.heap.size, 1, none⟩ = some (.int .i64 d) ∧ w'.cell? ⟨w.heap.size, 2, none⟩ = some (.int .i64 t)) ((first | (go_simp; done) | exact HSb _ (Keep.refl _) | exact HSb _ ((Keep.refl _).drewN 1) | exact HSb _ kq11 | exact HSb _ kq011 | exact HSb _ kq12 | go_keep))
    (first
      | (go_at_call 17; refine (toR_any _ _ y0 _ (hL0.keep (c10.drewN 1)) h0).mono ?_; rintro e w11 ⟨g11, hg11, rfl, hW11, kq11', hl_k11⟩; have kq11 : Keep w10 w11 := Keep.trans ((Keep.refl w10).drewN 1) kq11')
      | (go_at_call 18; refine (toKey3 s d t _).mono ?_; rintro e w011 ⟨rfl, kq011'⟩; have kq011 : Keep w10 w011 := Keep.trans kq11 kq011')
      | (go_at_call 19; refine (hs_impl _ _ y0 s d t _ (hW11.keep kq011').rs (by omega)).mono ?_; rintro e w12 ⟨p12x, q12, rfl, hF12, kq12'⟩; have kq12 : Keep w10 w12 := Keep.trans kq011 kq12'))
  have c12 : Keep w w12 := c10.trans kq12
  have L12 := L10.keep kq12
  have Y12 := hYs.keep kq12
  go_wp2_with fail
  refine (eqI_same _ _ _ _ _ _ hF12.ls L12 HZ).mono ?_
  rintro e w13 ⟨rfl, n13, rfl⟩
  have c13 := c12.drewN n13
  have HH2 := Lib.hid (heldI p4 q4 ys (w12.drewN n13) (Y12.drewN n13) hMk (by rw [hy]; exact HZ))
  rw [hy] at HH2
  go_wp2_with fail
  refine HH2.out.mono ?_
  rintro e w' ⟨rfl, rfl⟩
  go_wp2
  go_ret
  exact ⟨rfl, c13⟩
end Go.Proofs.Ytlaajompcbmdoab
