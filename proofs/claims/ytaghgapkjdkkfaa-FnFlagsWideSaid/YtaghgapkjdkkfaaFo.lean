/- Flags of a series: the model's function answers 'foOk', 'foL' as the program's does. -/
import Derived.Test.YtaghgapkjdkkfaaFoA
namespace Go.Proofs.Ytaghgapkjdkkfaa
open Go.RowKit
set_option linter.unusedVariables false

set_option maxRecDepth 100000 in
set_option maxHeartbeats 2000000 in
theorem fo_spec (a : Option Addr) (cap : Nat) (zs : List Int) (lo hi st : Int) (w : World) (h : Ls w a zs) (hm : zs.length ≤ 4611686018427387904) :
    Calls Try.prog 18 #[.slice a zs.length cap, .int .i64 lo, .int .i64 hi, .int .i64 st] w (FoPost zs lo hi st w) := by
  rcases Bool.eq_false_or_eq_true (sqB zs) with hq | hq
  case' inr =>
    have H : Hid (foOk zs st = false) := Lib.hid (by rw [foOk, hq]; rfl)
    go_enter Try.func18, Try.ntmps18
    go_wp2_with (go_at_call 31; refine (sqv_spec a cap zs _ h hm).mono ?_; rintro e w' ⟨he, rfl⟩; rw [hq] at he; subst he)
    go_ret2
    exact fo_post_no H.out _ 0 ((Keep.refl _).alloc _)
  rcases Bool.eq_false_or_eq_true (inB st 0 19999) with hs | hs
  case' inr =>
    have H : Hid (foOk zs st = false) := Lib.hid (by rw [foOk, hq, hs]; rfl)
    go_enter Try.func18, Try.ntmps18
    go_wp2_with (first | (go_at_call 31; refine (sqv_spec a cap zs _ h hm).mono ?_; rintro e w' ⟨he, rfl⟩; rw [hq] at he; subst he) | (go_at_call 43; refine (l6In_any _ _ _ _).mono ?_; rintro e w' ⟨he, rfl⟩; rw [hs] at he; subst he))
    go_ret2
    exact fo_post_no H.out _ 0 ((Keep.refl _).alloc _)
  have hok : foOk zs st = true := by rw [foOk, hq, hs]; rfl
  have HO := Lib.hid (And.intro hok (foL_yes (lo := lo) (hi := hi) hok))
  have HQ := Lib.hid hq
  obtain ⟨hl1, hl12⟩ := (sq_facts hq).2
  obtain ⟨_, hst0, hst1⟩ := foOk_facts hok
  obtain ⟨i0, hi0, hz0, hz1, hz2⟩ := info_parts infoIntF
  clear hok
  go_enter Try.func18, Try.ntmps18
  go_wp2_with (first | (go_at_call 31; refine (sqv_spec a cap zs _ h hm).mono ?_; rintro e w' ⟨he, rfl⟩; rw [hq] at he; subst he) | (go_at_call 43; refine (l6In_any _ _ _ _).mono ?_; rintro e w' ⟨he, rfl⟩; rw [hs] at he; subst he))
  clear hq hs
  go_loopw [10, 11] (fun u i wr => ∃ (k g c : Nat), k ≤ zs.length ∧ i = .int .i64 k ∧ u = .slice (some ⟨g, 0, none⟩) k c ∧ Hid (wr.ownsRow w.heap.size 3 1 (.slice (some ⟨g, 0, none⟩) k c) k (((flL zs lo hi st).take k).map (Value.int .i64))) ∧ Keep w wr) (fun _ i _ => zs.length - (intOf i).toNat)
  case atStart => exact ⟨0, w.heap.size, 0, by omega, rfl, rfl, Lib.hid (World.ownsRow_made w #[] 0 (Nat.le_refl _) (by unfold maxLen; omega) rfl), (Keep.refl w).alloc _⟩
  case round =>
    obtain ⟨k, g, c, hk, rfl, rfl, HW, hK⟩ := hrel
    have hsz := hK.size
    by_cases hlt : k < zs.length
    · have HD := Lib.hid ((l12_any a cap zs k lo hi st wr (h.keep hK) hlt HQ.out hst0 hst1).mono (fun e w' ⟨he, n, hn⟩ => (⟨he, by rw [hn]; exact (Keep.refl wr).drewN n⟩ : e = Ending.returned (.int .i64 (fl zs lo hi st k)) ∧ Keep wr w')))
      have HS := Lib.hid (flL_snoc (lo := lo) (hi := hi) (st := st) hlt)
      generalize fl zs lo hi st k = y at HD HS
      go_wp2_with fail
      refine HD.out.mono ?_
      rintro e w4 ⟨rfl, k4⟩
      have hown := own_keep HW.out k4
      have hKd := hK.trans k4
      have hsz4 := hKd.size
      go_wp2_with (at_builtin; refine wpList_append_own _ rfl _ _ 23 rfl w.heap.size 3 i0 (.int .i64 0) 1 8 Try.underlying23 hi0 hz0 hz1 hz2 rfl (by decide) _ _ _ rfl (hown.alloc _) ⟨w4.heap.size, 0, none⟩ 1 1 [.int .i64 y] rfl rfl ?c1a ?c2a ?c3a ?c4a ?c5a ?_)
      case c1a =>
        intro j u hj
        match j, hj with
        | 0, hj => simp at hj; subst hj; simp [Addr.add]
      case c2a => first | rfl | (intro u hu; simp at hu; subst hu; rfl)
      case c3a => unfold maxLen; omega
      case c4a => omega
      case c5a => first | omega | (simp; omega)
      intro v' w5 hown' hgrow hnil
      obtain ⟨g', c', rfl, hbg, hlg⟩ := hown'.form (by omega)
      have HN : Hid (w5.ownsRow w.heap.size 3 1 (.slice (some ⟨g', 0, none⟩) (k + 1) c') (k + 1) (((flL zs lo hi st).take (k + 1)).map (Value.int .i64))) := Lib.hid (by rw [HS.out]; simpa using hown')
      have HK2 := Lib.hid ((Below.grown (hKd.alloc (.cells #[.int .i64 y] 3)) hgrow (hKd.alloc (.cells #[.int .i64 y] 3)).size (fun q hq => (hown.lt q hq).1)) : Keep w w5)
      clear hown' hgrow hnil hown
      go_wp2
      go_roundw
      case rel => exact ⟨k + 1, g', c', by omega, by go_num, rfl, HN, HK2.out⟩
      case measure => simp [intOf]; omega
    · obtain rfl : k = zs.length := by omega
      have HF : Hid (Wr wr g (flL zs lo hi st) ∧ w.heap.size ≤ g ∧ g < wr.heap.size) := Lib.hid (by
        have h1 := HW.out
        rw [List.take_of_length_le (by rw [flL_len]; exact Nat.le_refl _)] at h1
        refine ⟨fun j hj => ?_, (World.ownsRow.lt h1 g rfl).1, (World.ownsRow.lt h1 g rfl).2⟩
        rw [flL_len] at hj
        refine ⟨?_, World.ownsRow.frozenAt h1 j⟩
        rw [World.ownsRow.cellAt h1 j (by omega)]
        simp [flL_len, hj, List.getD_eq_getElem?_getD])
      go_wp2
      go_ret2
      refine ⟨some ⟨g, 0, none⟩, c, ?_, .inr ⟨_, rfl, HF.out.2.1, HF.out.2.2, by rw [HO.out.2]; exact HF.out.1⟩, hK⟩
      rw [HO.out.1, HO.out.2, flL_len]
      rfl
end Go.Proofs.Ytaghgapkjdkkfaa
