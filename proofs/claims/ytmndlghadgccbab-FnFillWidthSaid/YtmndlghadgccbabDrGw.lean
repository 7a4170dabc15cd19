/- How ranges are drawn. -/
import Derived.Test.YtmndlghadgccbabDrRg
import Derived.Test.YtmndlghadgccbabDrHl
import Derived.Test.YtmndlghadgccbabRow
namespace Go.Proofs.Ytmndlghadgccbab
open Go.RowKit
set_option linter.unusedVariables false

theorem infoRngW : (Try.prog.info? 31).map (fun i => (i.zero, i.size, i.bytes)) = some (some (.agg #[.int .i64 0, .int .i64 0]), 2, 16) := by kernel_rfl
def DrewUs (w : World) (e : Ending) (w' : World) : Prop := ∃ (a : Option Addr) (c : Nat) (rs : List R2), e = .returned (.slice a rs.length c) ∧ rs.length ≤ 13 ∧ rs.length ≤ c ∧ Rr w' a rs ∧ Keep w w'
set_option maxRecDepth 100000 in
set_option maxHeartbeats 4000000 in
theorem drawFillWidth (a0 : Option Addr) (len cap : Nat) (w : World) (ha : CodeArg w a0 len cap) :
    Calls Try.prog 25 #[.slice a0 len cap] w (DrewUs w) := by
  obtain ⟨i0, hi0, hz0, hz1, hz2⟩ := info_parts infoRngW
  go_enter Try.func25, Try.ntmps25
  go_wp2_with fail
  refine (open_any a0 len cap _ ha).mono ?_
  rintro e w1 ⟨rfl, hr1, hb, hs⟩
  have HKb : Hid (Keep w w1) := Lib.hid hb
  have hBw1 : w.heap.size < w1.heap.size := hr1.lt
  clear ha hb hs
  go_wp2_with fail
  refine (pick_any _ 0 14 _ (by omega) (by omega) (hr1.alloc _)).mono ?_
  rintro e w2 ⟨nn, rfl, n0, n1, hr2, ho2, hs2⟩
  obtain ⟨n, rfl⟩ := Int.eq_ofNat_of_zero_le n0
  have hn13 : n ≤ 13 := by omega
  have HO2 : Hid (OwnU w2 w1.heap.size (.slice (some ⟨w1.heap.size, 0, none⟩) 0 0) []) := Lib.hid ((OwnU.made w1).only ho2 hBw1)
  have HW2 : Hid (Only w.heap.size w1 w2) := Lib.hid (((Only.refl _ w1).alloc _).trans ho2)
  have HR2 := Lib.hid hr2
  clear hr1 hr2 ho2 hs2
  go_wp2_with fail
  go_loopw [4, 6, 7] (fun v i lw wr => ∃ (k : Nat) (x : Option Addr) (cx : Nat) (rs : List R2), i = .int .i64 k ∧ k ≤ n ∧ v = .slice x k cx ∧ Hid (rs.length = k) ∧ Hid (OwnU wr w1.heap.size (.slice x k cx) rs) ∧ (∃ q : Nat, q ≤ 1 + 2 * k ∧ Hid (Rd wr w.heap.size q)) ∧ Hid (Only w.heap.size w1 wr)) (fun _ i _ _ => n - (intOf i).toNat)
  case atStart => exact ⟨0, _, _, [], rfl, by omega, rfl, Lib.hid rfl, HO2, ⟨1, by omega, HR2⟩, HW2⟩
  case round =>
    obtain ⟨k, x, cx, rs, rfl, hk, rfl, HLn, HO, ⟨q, hq, HRd⟩, HW⟩ := hrel
    clear HO2 HW2 HR2
    have hsz := HW.out.size
    by_cases hlt : k < n
    · go_wp2_with fail
      refine (pick_any _ q 100 _ (by omega) (by omega) HRd.out).mono ?_
      rintro e w3 ⟨y, rfl, y0, y1, hr3, ho3, hs3⟩
      have HO3 := Lib.hid (HO.out.only ho3 hBw1)
      have HW3 := Lib.hid (HW.out.trans ho3)
      clear HO HRd HW ho3 hs3
      go_wp2_with fail
      refine (pick_any _ (q + 1) 20 _ (by omega) (by omega) hr3).mono ?_
      rintro e w4 ⟨z, rfl, z0, z1, hr4, ho4, hs4⟩
      have HO4 := Lib.hid (HO3.out.only ho4 hBw1)
      have HW4 := Lib.hid (HW3.out.trans ho4)
      have HR4 := Lib.hid hr4
      have hsz4 := HW4.out.size
      clear HO3 HW3 hr3 hr4 ho4 hs4
      have hown : w4.ownsRow w1.heap.size 31 2 (.slice x k cx) k (flatU rs) := by
        have h9 := HO4.out
        unfold OwnU at h9
        rwa [HLn.out] at h9
      go_wp2_with (at_builtin; refine wpList_append_own _ rfl _ _ 27 rfl w1.heap.size 31 i0 (.agg #[.int .i64 0, .int .i64 0]) 2 16 Try.underlying27 hi0 hz0 hz1 hz2 rfl (by decide) _ _ _ rfl (hown.alloc _) ⟨w4.heap.size, 0, none⟩ 1 1 (uc (y, y + z)) rfl rfl ?c1a ?c2a ?c3a ?c4a ?c5a ?_)
      case c1a => exact newsU_one ⟨by first | (go_simp; done) | (go_simp; rfl), by first | (go_simp; done) | (go_simp; rfl)⟩
      case c2a => exact uc_one _
      case c3a => unfold maxLen; omega
      case c4a => omega
      case c5a => first | omega | (simp; omega)
      intro v' w5 hown' hgrow hnil
      have hrow : ∀ g', _ = some g' → w1.heap.size ≤ g' := fun g' hg => (hown.lt g' hg).1
      have HL5 : Hid ((rs ++ [(y, y + z)]).length = k + 1) := Lib.hid (by rw [List.length_append, HLn.out]; rfl)
      have HN : Hid (w5.ownsRow w1.heap.size 31 2 v' (k + 1) (flatU (rs ++ [(y, y + z)]))) := Lib.hid (by rw [flatU_app, flatU_one]; exact hown')
      have HR5 := Lib.hid ((HR4.out.alloc (.cells #[.int .i64 y, .int .i64 (y + z)] 31)).grown2 hgrow hBw1 hrow)
      have HW5 := Lib.hid ((HW4.out.alloc (.cells #[.int .i64 y, .int .i64 (y + z)] 31)).grown2 hgrow hrow)
      obtain ⟨g', c', rfl, hbg, hlg⟩ := hown'.form (by omega)
      have HN2 : Hid (OwnU w5 w1.heap.size (.slice (some ⟨g', 0, none⟩) (k + 1) c') (rs ++ [(y, y + z)])) := Lib.hid (by unfold OwnU; rw [HL5.out]; exact HN.out)
      clear hown' hgrow hnil hown hrow HN HO4
      go_wp2
      go_roundw
      case rel => exact ⟨k + 1, _, _, _, by go_num, by omega, rfl, HL5, HN2, ⟨_, by omega, HR5⟩, HW5⟩
      case measure => simp [intOf]; omega
    · obtain rfl : k = n := by omega
      by_cases h0 : k = 0
      · subst h0
        have HF : Hid (DrewUs w (.returned (.slice x 0 cx)) wr) := Lib.hid ⟨x, cx, [], rfl, by simp, by simp, .inl rfl, HKb.out.trans' HW.out (Nat.le_refl _)⟩
        go_wp2
        go_ret
        exact HF.out
      have HF0 : ∀ (wz : World) (ys : List R2), ys.length = k → OwnU wz w1.heap.size (.slice x k cx) ys → Only w.heap.size w1 wz → DrewUs w (.returned (.slice x k cx)) wz := fun wz ys hy hO hW => by
        obtain ⟨a9, c9, hv, hc9, hR9⟩ := hO.slice
        injection hv with e1 e2 e3
        subst e1
        subst e3
        exact ⟨x, cx, ys, by rw [hy], by omega, by omega, hR9, HKb.out.trans' hW (Nat.le_refl _)⟩
      have HF := Lib.hid HF0
      clear HF0
      obtain ⟨g, c9, hv9, hc9, hgb, hgl, hWU⟩ := HO.out.form (by have := HLn.out; omega)
      injection hv9 with e1 e2 e3
      subst e1
      subst e3
      have hBg : g ≠ w.heap.size := by omega
      have hd0 : decide ((0 : Int) < (k : Int)) = true := decide_eq_true (by omega)
      clear hWU e2
      go_wp2_with fail
      refine (pick_any _ q 8 _ (by omega) (by omega) HRd.out).mono ?_
      rintro e w4 ⟨y, rfl, y0, y1, hr4, ho4, hs4⟩
      have HO4 := Lib.hid (HO.out.only ho4 hBw1)
      have HW4 := Lib.hid (HW.out.trans ho4)
      clear HO HW ho4 hs4 HRd
      rcases (show y = 0 ∨ (y == 0) = false by by_cases h : y = 0 <;> simp [h]) with rfl | hy
      · go_wp2_with fail
        refine (pick_any _ (q + 1) k _ (by omega) (by omega) hr4).mono ?_
        rintro e w5 ⟨t, rfl, t0, t1, hr5, ho5, hs5⟩
        obtain ⟨j, rfl⟩ := Int.eq_ofNat_of_zero_le t0
        have hj : j < k := by omega
        have HO5 := Lib.hid (HO4.out.only ho5 hBw1)
        have HW5 := Lib.hid (HW4.out.trans ho5)
        clear HO4 HW4 ho5 hs5 hr4
        go_wp2_with fail
        refine (drawRg _ (q + 2) _ (by omega) hr5).mono ?_
        rintro e w6 ⟨p1, p2, q6, rfl, hp1, hp2, hq6, hr6, ho6⟩
        have HO6 := Lib.hid (HO5.out.only ho6 hBw1)
        have HW6 := Lib.hid (HW5.out.trans ho6)
        have hsz6 := HW6.out.size
        obtain ⟨g9, c8, hv9, hc8, hgb9, hgl9, hWU⟩ := HO6.out.form (by have := HLn.out; omega)
        injection hv9 with e1 e2 e3
        injection e1 with e1
        injection e1 with e1 _ _
        subst e1
        obtain ⟨⟨x0, x1⟩, ⟨f0, f1⟩⟩ := hWU j (by have := HLn.out; omega)
        have HFin : Hid (DrewUs w (.returned (.slice (some ⟨g, 0, none⟩) k cx)) (put2 w6 g (j * 2) (p1, p2))) := Lib.hid (by
          have ho : Only g w6 (put2 w6 g (j * 2) (p1, p2)) := ((Only.refl g w6).put1 _ _).put1 _ _
          refine ⟨some ⟨g, 0, none⟩, cx, rs.set j (p1, p2), by rw [List.length_set, HLn.out], by rw [List.length_set]; have := HLn.out; omega, by rw [List.length_set]; have := HLn.out; omega, (hWU.set (by have := HLn.out; omega) _).rr, ?_⟩
          exact (HKb.out.trans' HW6.out (Nat.le_refl _)).trans' ho (by omega))
        clear HO5 HO6 HW5 HW6 hr5 hr6 ho6 hWU e2 e3 hp1 hp2
        go_wp2
        go_ret
        exact HFin.out
      · have HFin := Lib.hid (HF.out w4 rs HLn.out HO4.out HW4.out)
        go_wp2
        go_ret
        exact HFin.out
end Go.Proofs.Ytmndlghadgccbab
