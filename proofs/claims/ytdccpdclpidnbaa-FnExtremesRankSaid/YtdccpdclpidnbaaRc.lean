/- Records: the program and the model answer 'rcL'. -/
import Derived.Test.YtdccpdclpidnbaaEx
import Derived.Test.YtdccpdclpidnbaaSq
import Derived.Test.YtdccpdclpidnbaaOi
import Derived.LoopTactic
namespace Go.Proofs.Ytdccpdclpidnbaa
open Go.RowKit
set_option linter.unusedVariables false

/-- The greatest value so far, as the program keeps it. -/
def rcI (zs : List Int) (k : Nat) : Int := if rcG zs k = -1000 then -9999 else rcG zs k
theorem rcI_zero (zs : List Int) : rcI zs 0 = -9999 := by simp [rcI, rcG]
theorem rcI_cases {zs : List Int} (h : sqB zs = true) {k : Nat} (hk : k < zs.length) : (zs.getD k 0 ≤ rcI zs k ∧ rcI zs (k + 1) = rcI zs k ∧ rcl zs (k + 1) = rcl zs k) ∨ (rcI zs k < zs.getD k 0 ∧ rcI zs (k + 1) = zs.getD k 0 ∧ rcl zs (k + 1) = rcl zs k ++ [(k : Int)]) := by
  have hb := rcG_bd h k (by omega)
  have hx := sq_at h hk
  rcases rc_cases zs k with ⟨h1, h2, h3, _⟩ | ⟨h1, h2, h3, h4, _⟩ | ⟨h1, h2, h3, h4, _⟩
  · left
    refine ⟨?_, by rw [rcI, rcI, h2], h3⟩
    rw [h1, rcI]; split <;> omega
  · left
    refine ⟨?_, by rw [rcI, rcI, h3], h4⟩
    rw [rcI, if_neg (by omega)]; exact h2
  · right
    refine ⟨?_, by rw [rcI, h3, if_neg (by omega)], h4⟩
    rw [rcI]; split <;> omega
set_option maxRecDepth 100000 in
set_option maxHeartbeats 2000000 in
theorem rc_impl (a : Option Addr) (cap : Nat) (zs : List Int) (w : World) (h : Ls w a zs) (hm : zs.length ≤ 4611686018427387904) :
    Calls Try.prog 33 #[.slice a zs.length cap] w (NwL (rcL zs) w) := by
  obtain ⟨i0, hi0, hz0, hz1, hz2⟩ := info_parts infoIntO
  rcases Bool.eq_false_or_eq_true (sqB zs) with hq | hq
  case' inr =>
    have HN := Lib.hid (rcL_no hq)
    go_enter Try.func33, Try.ntmps33
    go_wp2_with (go_at_call 40; refine (sqv_impl _ _ zs _ h hm).mono ?_; rintro e w' ⟨he, rfl⟩; rw [hq] at he; subst he)
    go_ret
    exact nwl_no HN.out _ _ (Keep.refl _)
  have hl12 := (sq_facts hq).2.2
  have HY := Lib.hid (rcL_yes hq)
  have HQ := Lib.hid hq
  go_enter Try.func33, Try.ntmps33
  go_wp2_with (go_at_call 40; refine (sqv_impl _ _ zs _ h hm).mono ?_; rintro e w' ⟨he, rfl⟩; rw [hq] at he; subst he)
  clear hq
  go_loopw [3, 4, 12] (fun u g i wr => ∃ (k n : Nat) (x : Option Addr) (cx : Nat) (y : Int), k ≤ zs.length ∧ n ≤ k ∧ i = .int .i64 k ∧ u = .slice x n cx ∧ g = .int .i64 y ∧ Hid (rcI zs k = y) ∧ Hid ((rcl zs k).length = n) ∧ Hid (OwI wr w.heap.size (.slice x n cx) (rcl zs k)) ∧ Keep w wr) (fun _ _ i _ => zs.length - (intOf i).toNat)
  case atStart => exact ⟨0, 0, none, 0, -9999, by omega, by omega, rfl, rfl, rfl, Lib.hid (rcI_zero zs), Lib.hid rfl, Lib.hid (OwI.nil _ _), Keep.refl _⟩
  case round =>
    obtain ⟨k, n, x, cx, y, hk, hn, rfl, rfl, rfl, HI, HL, HO, hK⟩ := hrel
    have hsz := hK.size
    by_cases hlt : k < zs.length
    · obtain ⟨bz, oz, rfl, hbz, cz⟩ := (h.keep hK).at_ hlt
      have hrc := rcI_cases HQ.out hlt
      rw [HI.out] at hrc
      rcases hrc with ⟨r1, r2, r3⟩ | ⟨r1, r2, r3⟩
      · have HI2 : Hid (rcI zs (k + 1) = y) := Lib.hid r2
        have HO2 : Hid (OwI wr w.heap.size (.slice x n cx) (rcl zs (k + 1))) := Lib.hid (by rw [r3]; exact HO.out)
        have HL2 : Hid ((rcl zs (k + 1)).length = n) := Lib.hid (by rw [r3]; exact HL.out)
        have d : decide (y < zs.getD k 0) = false := decide_eq_false (by omega)
        clear r2 r3
        generalize zs.getD k 0 = v at cz r1 d
        go_wp2_with fail
        go_roundw
        case rel => exact ⟨k + 1, n, x, cx, y, by omega, by omega, by go_num, rfl, rfl, HI2, HL2, HO2, hK⟩
        case measure => simp [intOf]; omega
      · have HI2 := Lib.hid r2
        have HS := Lib.hid r3
        have d : decide (y < zs.getD k 0) = true := decide_eq_true r1
        clear r2 r3
        generalize zs.getD k 0 = v at cz r1 d HI2
        obtain ⟨L, hL⟩ : ∃ L, rcl zs k = L := ⟨_, rfl⟩
        rw [hL] at HL HO HS
        have HL0 := HL.out
        clear hL
        subst HL0
        have hown : wr.ownsRow w.heap.size 3 1 _ _ _ := HO.out
        go_wp2_with (at_builtin; refine wpList_append_own _ rfl _ _ 23 rfl w.heap.size 3 i0 (.int .i64 0) 1 8 Try.underlying23 hi0 hz0 hz1 hz2 rfl (by decide) _ _ _ rfl (hown.alloc _) ⟨wr.heap.size, 0, none⟩ 1 1 [.int .i64 (k : Int)] rfl rfl ?c1a ?c2a ?c3a ?c4a ?c5a ?_)
        try case c1a =>
          intro j u hj
          match j, hj with
          | 0, hj => simp at hj; subst hj; simp [Addr.add]
        case c2a => first | rfl | (intro u hu; simp at hu; subst hu; rfl)
        case c3a => unfold maxLen; omega
        case c4a => omega
        case c5a => first | omega | (simp; omega)
        intro v' w9 hown' hgrow hnil
        obtain ⟨g', c', rfl, hbg, hlg⟩ := hown'.form (by omega)
        have HN : Hid (OwI w9 w.heap.size (.slice (some ⟨g', 0, none⟩) (L.length + 1) c') (rcl zs (k + 1))) := Lib.hid (by rw [HS.out]; unfold OwI; simpa using hown')
        have HL2 : Hid ((rcl zs (k + 1)).length = L.length + 1) := Lib.hid (by rw [HS.out]; simp)
        have HK2 := Lib.hid ((Below.grown (hK.alloc (.cells #[.int .i64 (k : Int)] 3)) hgrow (hK.alloc (.cells #[.int .i64 (k : Int)] 3)).size (fun q hq => (hown.lt q hq).1)) : Keep w w9)
        clear hown' hgrow hnil hown
        go_wp2
        go_roundw
        case rel => exact ⟨k + 1, L.length + 1, some ⟨g', 0, none⟩, c', v, by omega, by omega, by go_num, rfl, rfl, HI2, HL2, HN, HK2.out⟩
        case measure => simp [intOf]; omega
    · obtain rfl : k = zs.length := by omega
      have HF := Lib.hid HO.out
      rw [← HY.out] at HF
      go_wp2
      go_ret
      exact nwl_own HF.out (Nat.le_refl _) hK
theorem rc_implF (a : Option Addr) (cap : Nat) (zs : List Int) (w : World) (h : Ls w a zs) (hm : zs.length ≤ 4611686018427387904) :
    Calls Try.prog 33 #[.slice a zs.length cap] w (FrPostO (rcL zs) w) := (rc_impl a cap zs w h hm).mono fun _ _ h => h.fr
end Go.Proofs.Ytdccpdclpidnbaa
