/- The laws' own 'added' by any small number. -/
import Derived.Test.YtdccpdclpidnbaaMe
import Derived.Test.YtdccpdclpidnbaaLw
import Derived.LoopTactic
namespace Go.Proofs.Ytdccpdclpidnbaa
open Go.RowKit
set_option linter.unusedVariables false

set_option maxRecDepth 100000 in
set_option maxHeartbeats 1000000 in
theorem addedD_any (d : Int) (hd0 : 0 ≤ d) (hd1 : d ≤ 100) (a : Option Addr) (c : Nat) (zs : List Int) (w : World) (h : Ls w a zs) (hB : ∀ x ∈ zs, -10000 ≤ x ∧ x ≤ 12000) (hm : zs.length ≤ 1048576) :
    Calls Try.prog 29 #[.slice a zs.length c, .int .i64 d] w (MadeL (zs.map (addD d)) w) := by
  obtain ⟨i0, hi0, hz0, hz1, hz2⟩ := info_parts infoIntL
  have HB := Lib.hid hB
  clear hB
  go_enter Try.func29, Try.ntmps29
  go_wp2_with fail
  go_loopw [5, 6] (fun u i wr => ∃ (k g cc : Nat), k ≤ zs.length ∧ i = .int .i64 k ∧ u = .slice (some ⟨g, 0, none⟩) k cc ∧ Hid (wr.ownsRow w.heap.size 3 1 (.slice (some ⟨g, 0, none⟩) k cc) k (((zs.map (addD d)).take k).map (Value.int .i64))) ∧ Keep w wr) (fun _ i _ => zs.length - (intOf i).toNat)
  case atStart => exact ⟨0, w.heap.size, 0, by omega, rfl, rfl, Lib.hid (World.ownsRow_made w #[] 0 (Nat.le_refl _) (by unfold maxLen; omega) rfl), (Keep.refl w).alloc _⟩
  case round =>
    obtain ⟨k, g, cc, hk, rfl, rfl, HW, hK⟩ := hrel
    have hsz := hK.size
    by_cases hlt : k < zs.length
    · obtain ⟨bz, oz, rfl, hbz, cz⟩ := (h.keep hK).at_ hlt
      have hown := HW.out
      have HS : Hid ((zs.map (addD d)).take (k + 1) = (zs.map (addD d)).take k ++ [addD d (zs.getD k 0)]) := Lib.hid (by
        rw [List.take_succ_eq_append_getElem (by simpa using hlt)]
        simp [List.getD_eq_getElem?_getD, hlt])
      obtain ⟨x0, x1⟩ := HB.out _ (getD_mem hlt)
      by_cases hx : zs.getD k 0 = -9999
      · rw [hx] at cz HS
        replace HS : Hid ((zs.map (addD d)).take (k + 1) = (zs.map (addD d)).take k ++ [-9999]) := HS
        clear hx x0 x1
        go_wp2_with (at_builtin; refine wpList_append_own _ rfl _ _ 23 rfl w.heap.size 3 i0 (.int .i64 0) 1 8 Try.underlying23 hi0 hz0 hz1 hz2 rfl (by decide) _ _ _ rfl (hown.alloc _) ⟨wr.heap.size, 0, none⟩ 1 1 [.int .i64 (-9999)] rfl rfl ?c1a ?c2a ?c3a ?c4a ?c5a ?_)
        case c1a =>
          intro j u hj
          match j, hj with
          | 0, hj => simp at hj; subst hj; simp [Addr.add]
        case c2a => first | rfl | (intro u hu; simp at hu; subst hu; rfl)
        case c3a => unfold maxLen; omega
        case c4a => omega
        case c5a => first | omega | (simp; omega)
        intro v' w5 hown' hgrow hnil
        obtain ⟨g', c', rfl, hbg, hlg⟩ := hown'.form (by omega)
        have HN : Hid (w5.ownsRow w.heap.size 3 1 (.slice (some ⟨g', 0, none⟩) (k + 1) c') (k + 1) (((zs.map (addD d)).take (k + 1)).map (Value.int .i64))) := Lib.hid (by rw [HS.out]; simpa using hown')
        have HK2 := Lib.hid ((Below.grown (hK.alloc (.cells #[.int .i64 (-9999)] 3)) hgrow (hK.alloc (.cells #[.int .i64 (-9999)] 3)).size (fun q hq => (hown.lt q hq).1)) : Keep w w5)
        clear hown' hgrow hnil hown
        go_wp2
        go_roundw
        case rel => exact ⟨k + 1, g', c', by omega, by go_num, rfl, HN, HK2.out⟩
        case measure => simp [intOf]; omega
      · have hx2 : (zs.getD k 0 == -9999) = false := beq_eq_false_iff_ne.2 hx
        rw [addD, if_neg hx] at HS
        clear hx
        generalize zs.getD k 0 = y at cz HS x0 x1 hx2
        go_wp2_with (at_builtin; refine wpList_append_own _ rfl _ _ 23 rfl w.heap.size 3 i0 (.int .i64 0) 1 8 Try.underlying23 hi0 hz0 hz1 hz2 rfl (by decide) _ _ _ rfl (hown.alloc _) ⟨wr.heap.size, 0, none⟩ 1 1 [.int .i64 (y + d)] rfl rfl ?c1a ?c2a ?c3a ?c4a ?c5a ?_)
        case c1a =>
          intro j u hj
          match j, hj with
          | 0, hj => simp at hj; subst hj; simp [Addr.add]
        case c2a => first | rfl | (intro u hu; simp at hu; subst hu; rfl)
        case c3a => unfold maxLen; omega
        case c4a => omega
        case c5a => first | omega | (simp; omega)
        intro v' w5 hown' hgrow hnil
        obtain ⟨g', c', rfl, hbg, hlg⟩ := hown'.form (by omega)
        have HN : Hid (w5.ownsRow w.heap.size 3 1 (.slice (some ⟨g', 0, none⟩) (k + 1) c') (k + 1) (((zs.map (addD d)).take (k + 1)).map (Value.int .i64))) := Lib.hid (by rw [HS.out]; simpa using hown')
        have HK2 := Lib.hid ((Below.grown (hK.alloc (.cells #[.int .i64 (y + d)] 3)) hgrow (hK.alloc (.cells #[.int .i64 (y + d)] 3)).size (fun q hq => (hown.lt q hq).1)) : Keep w w5)
        clear hown' hgrow hnil hown
        go_wp2
        go_roundw
        case rel => exact ⟨k + 1, g', c', by omega, by go_num, rfl, HN, HK2.out⟩
        case measure => simp [intOf]; omega
    · obtain rfl : k = zs.length := by omega
      have HF := Lib.hid (show wr.ownsRow w.heap.size 3 1 (.slice (some ⟨g, 0, none⟩) zs.length cc) zs.length ((zs.map (addD d)).map (Value.int .i64)) by
        have h1 := HW.out
        rwa [List.take_of_length_le (by simp)] at h1)
      go_wp2
      go_ret
      exact made_own HF.out hK
end Go.Proofs.Ytdccpdclpidnbaa
