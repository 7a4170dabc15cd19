/- ProductsAll: the program answers as its model; its answer is new memory, and no argument turns. -/
import Derived.Test.YtkiibklenpncpaaPa
import Derived.Test.YtkiibklenpncpaaMf
import Derived.Test.YtkiibklenpncpaaFr
namespace Go.Proofs.Ytkiibklenpncpaa
open Go.RowKit
set_option linter.unusedVariables false

set_option maxHeartbeats 400000 in
theorem szP_anyL (a : Option Addr) (len cap l : Nat) (w : World) (h : len ≤ l) (hm : l ≤ 1048576) :
    Calls Try.prog 18 #[.slice a len cap, .int .i64 (l : Int)] w fun e w' => e = .returned (.int .i64 ((l : Int) - (len : Int))) ∧ w = w' := by
  have d : decide ((l : Int) - (len : Int) < 0) = false := by simp; omega
  go_enter Try.func18, Try.ntmps18
  go_wp2
  go_ret
  exact ⟨rfl, rfl⟩
set_option maxHeartbeats 400000 in
theorem szP_bigL (a : Option Addr) (len cap l : Nat) (w : World) (h : l < len) (hm : len ≤ 9223372036854775807) :
    Calls Try.prog 18 #[.slice a len cap, .int .i64 (l : Int)] w fun e w' => e = .returned (.int .i64 (-1)) ∧ w = w' := by
  have d : decide ((l : Int) - (len : Int) < 0) = true := by simp; omega
  go_enter Try.func18, Try.ntmps18
  go_wp2
  go_ret
  exact ⟨rfl, rfl⟩
def mkF (x : Int) (k : Nat) : R5 := (x + 5 * (k : Int), x + 5 * (k : Int) + 1, x + 5 * (k : Int) + 1 + 1, x + 5 * (k : Int) + 1 + 1 + 1, x + 5 * (k : Int) + 1 + 1 + 1 + 1)
set_option maxHeartbeats 1000000 in
theorem markP_from (g c : Nat) (rs : List R5) (x : Int) (w : World) (h : WrP w g rs) (hm : rs.length ≤ 1048576) (x0' : 0 ≤ x) (x1' : x ≤ 1099511627776) :
    Calls Try.prog 25 #[.slice (some ⟨g, 0, none⟩) rs.length c, .int .i64 x] w fun e w' => e = .returned (.int .i64 (x + 5 * (rs.length : Int))) ∧ Only g w w' := by
  go_enter Try.func25, Try.ntmps25
  go_wp2_with fail
  go_loopw [1, 5] (fun q i wr => ∃ (k : Nat) (ys : List R5), k ≤ rs.length ∧ i = .int .i64 k ∧ q = .int .i64 (x + 5 * (k : Int)) ∧ Hid (ys.length = rs.length ∧ WrP wr g ys) ∧ Only g w wr) (fun _ i _ => rs.length - (intOf i).toNat)
  case atStart => exact ⟨0, rs, by omega, rfl, by simp, Lib.hid ⟨rfl, h⟩, Only.refl g w⟩
  case round =>
    obtain ⟨k, ys, hk, rfl, rfl, HW, hO⟩ := hrel
    by_cases hlt : k < rs.length
    · obtain ⟨⟨x0, x1, x2, x3, x4⟩, ⟨y0, y1, y2, y3, y4⟩⟩ := HW.out.2 k (by have := HW.out.1; omega)
      have HW2 : Hid ((ys.set k (mkF x k)).length = rs.length ∧ WrP (put5 wr g (k * 5) (mkF x k)) g (ys.set k (mkF x k))) := Lib.hid (by
        obtain ⟨l, W⟩ := HW.out
        exact ⟨by rw [List.length_set]; exact l, W.set (by omega) _⟩)
      have HO := Lib.hid (((((hO.put1 (k * 5) (.int .i64 (qS (mkF x k)))).put1 (k * 5 + 1) (.int .i64 (qT (mkF x k)))).put1 (k * 5 + 2) (.int .i64 (qF (mkF x k)))).put1 (k * 5 + 3) (.int .i64 (qN (mkF x k)))).put1 (k * 5 + 4) (.int .i64 (qG (mkF x k))))
      go_wp2
      go_roundw
      case rel => exact ⟨k + 1, ys.set k (mkF x k), by omega, by go_num, by congr 1; omega, HW2, HO.out⟩
      case measure => simp [intOf]; omega
    · obtain rfl : k = rs.length := by omega
      go_wp2
      go_ret
      exact ⟨rfl, hO⟩
set_option maxRecDepth 100000 in
set_option maxHeartbeats 2000000 in
theorem walk_FnExactProductsAll (a0 : Option Addr) (len0 cap0 : Nat) (z0 : Nat → Nat → Int) (a1 : Int) (a2 : Option Addr) (len2 cap2 : Nat) (z2 : Nat → Nat → Int) (w : World) (w0 : IsRows 4 w a0 len0 cap0 z0) (w1 : (Lit.int .i64 a1).wf = true) (w2 : IsRows 5 w a2 len2 cap2 z2) :
    Calls Try.prog 4 #[.slice a0 len0 cap0, .int .i64 a1, .slice a2 len2 cap2] w fun e w' => e = .returned (.bool true) ∧ Below w.heap.size w w' := by
  obtain ⟨y0, hl0, hL0, ⟨hm0, hM0⟩⟩ := rs_of_rows w0
  subst hl0
  clear w0
  obtain ⟨y2, hl2, hL2, ⟨hm2, hM2⟩⟩ := ps_of_rows w2
  subst hl2
  clear w2
  unfold maxLen at hM0 hM2
  clear w1
  by_cases h0 : y0.length ≤ 1048576
  case' neg =>
    go_enter Try.func4, Try.ntmps4
    go_wp2_with (go_at_call 17; refine (sz_big _ _ _ _ (by omega) (by omega)).mono ?_; rintro e w' ⟨rfl, rfl⟩)
    go_ret
    exact ⟨rfl, Below.refl _ _⟩
  have hd0 : decide (1048576 - (y0.length : Int) < 0) = false := by simp; omega
  obtain ⟨lf, hlf⟩ : ∃ lf : Nat, 1048576 - (y0.length : Int) = (lf : Int) := ⟨1048576 - y0.length, by omega⟩
  by_cases h2 : y2.length ≤ lf
  case' neg =>
    go_enter Try.func4, Try.ntmps4
    go_wp2_with fail
    refine (sz_any _ _ _ _ h0).mono ?_
    rintro e w' ⟨rfl, rfl⟩
    rw [hlf]
    go_wp2_with (go_at_call 18; refine (szP_bigL _ _ _ lf _ (by omega) (by omega)).mono ?_; rintro e w' ⟨rfl, rfl⟩)
    go_ret
    exact ⟨rfl, Below.refl _ _⟩
  have hd2 : decide ((lf : Int) - (y2.length : Int) < 0) = false := by simp; omega
  have hP0 : y2.length ≤ 1048576 := by omega
  have HZ : (paL y0 a1 y2).length ≤ 1048576 := Nat.le_trans (paL_len y0 a1 y2) hP0
  go_enter Try.func4, Try.ntmps4
  go_wp2_with fail
  refine (sz_any _ _ _ _ h0).mono ?_
  rintro e w' ⟨rfl, rfl⟩
  rw [hlf]
  go_wp2_with fail
  refine (szP_anyL _ _ _ lf _ h2 (by omega)).mono ?_
  rintro e w' ⟨rfl, rfl⟩
  go_wp2_with fail
  refine (toR_any _ _ y0 _ hL0 h0).mono ?_
  rintro e w1 ⟨g1, hg1, rfl, hW1, k1, hl_k1⟩
  go_wp2_with fail
  refine (toP_any _ _ y2 _ (hL2.keep k1) hP0).mono ?_
  rintro e w1b ⟨g1b, hg1b, rfl, hW1b, k1b, hl_k1b⟩
  have c1 : Keep w w1b := Keep.trans k1 k1b
  go_wp2_with fail
  refine (pa_spec _ _ y0 a1 _ _ y2 _ (hW1.keep k1b).rs (by omega) (by omega) hW1b.ps (by omega)).mono ?_
  rintro e w2 ⟨p2, q2, rfl, hq2, hF2, k2⟩
  have c2 : Keep w w2 := Keep.trans c1 k2
  have s2 := c2.size
  go_wp2_with fail
  refine (toR_any _ _ y0 _ (hL0.keep c2) h0).mono ?_
  rintro e w3 ⟨g3, hg3, rfl, hW3, k3, hl_k3⟩
  have c3 : Keep w w3 := Keep.trans c2 k3
  go_wp2_with fail
  refine (toP_any _ _ y2 _ (hL2.keep c3) hP0).mono ?_
  rintro e w3b ⟨g3b, hg3b, rfl, hW3b, k3b, hl_k3b⟩
  have c3b : Keep w w3b := Keep.trans c3 k3b
  have L3 := (hF2.ls.keep k3).keep k3b
  have lo3 : Lo g3 p2 _ := hF2.ls.lo.mono hg3
  have lo3b : Lo g3b p2 _ := hF2.ls.lo.mono (Nat.le_trans k3.size hg3b)
  have hgg : g3 < g3b := Nat.lt_of_lt_of_le hl_k3 hg3b
  go_wp2_with fail
  refine (pa_impl _ _ y0 a1 _ _ y2 _ (hW3.keep k3b).rs (by omega) (by omega) hW3b.ps (by omega)).mono ?_
  rintro e w4 ⟨p4, q4, rfl, hq4, hF4, k4⟩
  have c4 : Keep w w4 := Keep.trans c3b k4
  have L4 := L3.keep k4
  go_wp2_with fail
  refine (eqI_same _ _ _ _ _ _ hF4.ls L4 HZ).mono ?_
  rintro e w5 ⟨rfl, n5, rfl⟩
  have c5 := c4.drewN n5
  have k5 := (Keep.refl w4).drewN n5
  go_wp2_with fail
  refine (toR_any _ _ y0 _ (hL0.keep c5) h0).mono ?_
  rintro e w6 ⟨g6, hg6, rfl, hW6, k6, hl_k6⟩
  have c6 : Keep w w6 := Keep.trans c5 k6
  have hx := (((hW3.keep k3b).keep k4).keep k5).keep k6
  have hxP := ((hW3b.keep k4).keep k5).keep k6
  go_wp2_with fail
  refine (eqR_same _ _ _ _ y0 _ hx.rs hW6.rs h0).mono ?_
  rintro e w7 ⟨rfl, k7⟩
  have c7 : Keep w w7 := Keep.trans c6 k7
  go_wp2_with fail
  refine (toP_any _ _ y2 _ (hL2.keep c7) hP0).mono ?_
  rintro e w6b ⟨g6b, hg6b, rfl, hW6b, k6b, hl_k6b⟩
  have c6b : Keep w w6b := Keep.trans c7 k6b
  go_wp2_with fail
  refine (eqP_same _ _ _ _ y2 _ ((hxP.keep k7).keep k6b).ps hW6b.ps hP0).mono ?_
  rintro e w7b ⟨rfl, k7b⟩
  have c7b : Keep w w7b := Keep.trans c6b k7b
  have kq : Keep w4 w7b := (((k5.trans k6).trans k7).trans k6b).trans k7b
  have L7 := L4.keep kq
  have F7 := hF4.keep kq
  have R7 := ((hW3.keep k3b).keep k4).keep kq
  have P7 := (hW3b.keep k4).keep kq
  go_wp2_with fail
  refine (markR g3 _ y0 _ R7 h0).mono ?_
  rintro e w8 ⟨rfl, ho8, _⟩
  have c8 : Keep w w8 := Keep.trans' c7b ho8 (by omega)
  have L8 := L7.only lo3 ho8
  have P8 := ho8.wrP P7 (by omega)
  have F8 : Fresh w3b w8 p4 (paL y0 a1 y2) := F7.only ho8 (Nat.lt_of_lt_of_le hl_k3 k3b.size)
  go_wp2_with fail
  refine (markP_from g3b _ y2 (1 + 4 * (y0.length : Int)) _ P8 hP0 (by omega) (by omega)).mono ?_
  rintro e w8b ⟨rfl, ho8b⟩
  have c8b : Keep w w8b := Keep.trans' c8 ho8b (by omega)
  have L8b := L8.only lo3b ho8b
  have F8b : Fresh w3b w8b p4 (paL y0 a1 y2) := F8.only ho8b hl_k3b
  have s37 : w3b.heap.size ≤ w8b.heap.size := Nat.le_trans (Nat.le_trans k4.size kq.size) (Nat.le_trans ho8.size ho8b.size)
  have dk : decide (1 + 4 * (y0.length : Int) + 5 * (y2.length : Int) < 0) = false := by simp; omega
  go_wp2_with fail
  refine (eqI_same _ _ _ _ _ _ F8b.ls L8b HZ).mono ?_
  rintro e w9 ⟨rfl, n9, rfl⟩
  have c9 := c8b.drewN n9
  have F9 := F8b.drewN n9
  have L9 := L8b.drewN n9
  go_wp2_with fail
  refine (markF _ _ _ w3b _ F9 HZ).mono ?_
  rintro e w10 ⟨rfl, hb10, ys, hy, hYs, hMk⟩
  have b10 : Below w3b.heap.size (w8b.drewN n9) w10 := hb10 s37
  have sw3 := c3b.size
  have c10 : Keep w w10 := Below.trans c9 (b10.mono sw3)
  have L10 := L9.below (lo3b.mono (show g3b ≤ w3b.heap.size from Nat.le_of_lt hl_k3b)) b10
  have dm : decide (1 + ((paL y0 a1 y2).length : Int) < 0) = false := by simp; omega
  have HH := Lib.hid (heldI p4 q4 ys w10 hYs hMk (by rw [hy]; exact HZ))
  rw [hy] at HH
  go_wp2_with fail
  refine HH.out.mono ?_
  rintro e w' ⟨rfl, rfl⟩
  go_wp2_with fail
  refine (toR_any _ _ y0 _ (hL0.keep c10) h0).mono ?_
  rintro e w11 ⟨g11, hg11, rfl, hW11, k11, hl_k11⟩
  have c11 : Keep w w11 := Keep.trans c10 k11
  go_wp2_with fail
  refine (toP_any _ _ y2 _ (hL2.keep c11) hP0).mono ?_
  rintro e w11b ⟨g11b, hg11b, rfl, hW11b, k11b, hl_k11b⟩
  have c11b : Keep w w11b := Keep.trans c11 k11b
  go_wp2_with fail
  refine (pa_impl _ _ y0 a1 _ _ y2 _ (hW11.keep k11b).rs (by omega) (by omega) hW11b.ps (by omega)).mono ?_
  rintro e w12 ⟨p12, q12, rfl, hq12, hF12, k12⟩
  have c12 : Keep w w12 := Keep.trans c11b k12
  have L12 := ((L10.keep k11).keep k11b).keep k12
  have Y12 := ((hYs.keep k11).keep k11b).keep k12
  go_wp2_with fail
  refine (eqI_same _ _ _ _ _ _ hF12.ls L12 HZ).mono ?_
  rintro e w13 ⟨rfl, n13, rfl⟩
  have c13 := c12.drewN n13
  have HH2 := Lib.hid (heldI p4 q4 ys (w12.drewN n13) (Y12.drewN n13) hMk (by rw [hy]; exact HZ))
  rw [hy] at HH2
  go_wp2_with fail
  refine HH2.out.mono ?_
  rintro e w' ⟨rfl, rfl⟩
  go_wp2
  go_ret
  exact ⟨rfl, c13⟩
end Go.Proofs.Ytkiibklenpncpaa
