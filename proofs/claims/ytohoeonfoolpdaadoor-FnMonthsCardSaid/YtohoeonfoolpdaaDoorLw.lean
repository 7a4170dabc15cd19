/- The laws' own functions over slices of ints: sameInts, added, back, known. -/
import Derived.Test.YtohoeonfoolpdaaDoorFgm
import Derived.Test.YtohoeonfoolpdaaDoorSe
import Derived.LoopTactic
import Derived.Deep.QuietTactic
import Derived.BigQuiet
namespace Go.Proofs.YtohoeonfoolpdaaDoor
open Go.RowKit
set_option linter.unusedVariables false

theorem infoIntL : (Tryd.prog.info? 3).map (fun i => (i.zero, i.size, i.bytes)) = some (some (.int .i64 0), 1, 8) := by kernel_rfl
theorem wr_ownL {w : World} {base g n c : Nat} {e : TypeId} {zs : List Int} (h : w.ownsRow base e 1 (.slice (some ⟨g, 0, none⟩) n c) n (zs.map (Value.int .i64))) : (n = zs.length ∧ n ≤ c) ∧ Wr w g zs ∧ base ≤ g ∧ g < w.heap.size := by
  have hl : n = zs.length := by have := h.1; simp at this; omega
  refine ⟨⟨hl, ?_⟩, fun j hj => ⟨?_, World.ownsRow.frozenAt h j⟩, (World.ownsRow.lt h g rfl).1, (World.ownsRow.lt h g rfl).2⟩
  · rcases id h.2 with ⟨hn, _⟩ | ⟨g', cap', cur, hn, _, hc, _⟩
    · cases hn
    · injection hn with _ _ hn; subst hn; omega
  · rw [World.ownsRow.cellAt h j (by omega)]
    simp [hj, List.getD_eq_getElem?_getD]
/-- A slice that a law's function has made. -/
def MadeL (L : List Int) (w : World) (e : Ending) (w' : World) : Prop := ∃ (g c : Nat), e = .returned (.slice (some ⟨g, 0, none⟩) L.length c) ∧ L.length ≤ c ∧ Wr w' g L ∧ w.heap.size ≤ g ∧ g < w'.heap.size ∧ Keep w w'
theorem made_own {w w' : World} {g n c : Nat} {e : TypeId} {L : List Int} (h : w'.ownsRow w.heap.size e 1 (.slice (some ⟨g, 0, none⟩) n c) n (L.map (Value.int .i64))) (k : Keep w w') : MadeL L w (.returned (.slice (some ⟨g, 0, none⟩) n c)) w' := by
  obtain ⟨⟨rfl, hc⟩, h1, h2, h3⟩ := wr_ownL h
  exact ⟨g, c, rfl, hc, h1, h2, h3, k⟩
set_option maxRecDepth 100000 in
set_option maxHeartbeats 1000000 in
theorem known_any (a : Option Addr) (c : Nat) (zs : List Int) (w : World) (h : Ls w a zs) (hm : zs.length ≤ 1048576) :
    Calls Tryd.prog 12 #[.slice a zs.length c] w (MadeL (knl zs) w) := by
  obtain ⟨i0, hi0, hz0, hz1, hz2⟩ := info_parts infoIntL
  go_enter Tryd.func12, Tryd.ntmps12
  go_wp2_with fail
  go_loopw [3, 4] (fun u i wr => ∃ (k n g cc : Nat), k ≤ zs.length ∧ n ≤ k ∧ i = .int .i64 k ∧ u = .slice (some ⟨g, 0, none⟩) n cc ∧ Hid (wr.ownsRow w.heap.size 3 1 (.slice (some ⟨g, 0, none⟩) n cc) n ((knl (zs.take k)).map (Value.int .i64))) ∧ Keep w wr) (fun _ i _ => zs.length - (intOf i).toNat)
  case atStart => exact ⟨0, 0, w.heap.size, 0, by omega, by omega, rfl, rfl, Lib.hid (World.ownsRow_made w #[] 0 (Nat.le_refl _) (by unfold maxLen; omega) rfl), (Keep.refl w).alloc _⟩
  case round =>
    obtain ⟨k, n, g, cc, hk, hn, rfl, rfl, HW, hK⟩ := hrel
    have hsz := hK.size
    by_cases hlt : k < zs.length
    · obtain ⟨bz, oz, rfl, hbz, cz⟩ := (h.keep hK).at_ hlt
      have hown := HW.out
      have HS0 : Hid (knl (zs.take (k + 1)) = knl (zs.take k) ++ knl [zs.getD k 0]) := Lib.hid (by
        rw [List.take_succ_eq_append_getElem hlt, knl, knl, knl, List.filter_append]
        simp [List.getD_eq_getElem?_getD, hlt])
      by_cases hx : zs.getD k 0 = -9999
      · have HS : Hid (knl (zs.take (k + 1)) = knl (zs.take k)) := Lib.hid (by rw [HS0.out, hx]; simp [knl])
        rw [hx] at cz
        rw [← HS.out] at HW
        clear hx HS0 hown
        go_wp2_with fail
        go_roundw
        case rel => exact ⟨k + 1, n, g, cc, by omega, by omega, by go_num, rfl, HW, hK⟩
        case measure => simp [intOf]; omega
      · have hx2 : (zs.getD k 0 != -9999) = true := bne_iff_ne.2 hx
        have HS : Hid (knl (zs.take (k + 1)) = knl (zs.take k) ++ [zs.getD k 0]) := Lib.hid (by rw [HS0.out]; simp only [knl, List.filter_cons, hx2, List.filter_nil]; rfl)
        clear hx HS0
        generalize zs.getD k 0 = y at cz HS hx2
        go_wp2_with (at_builtin; refine wpList_append_own _ rfl _ _ 23 rfl w.heap.size 3 i0 (.int .i64 0) 1 8 Tryd.underlying23 hi0 hz0 hz1 hz2 rfl (by decide) _ _ _ rfl (hown.alloc _) ⟨wr.heap.size, 0, none⟩ 1 1 [.int .i64 y] rfl rfl ?c1a ?c2a ?c3a ?c4a ?c5a ?_)
        case c1a =>
          intro j u hj
          match j, hj with
          | 0, hj => simp at hj; subst hj; simp [Addr.add]
        case c2a => first | rfl | (intro u hu; simp at hu; subst hu; rfl)
        case c3a => unfold maxLen; omega
        case c4a => omega
        case c5a => first | omega | (simp; omega)
        intro v' w5 hown' hgrow hnil
        obtain ⟨g', c', rfl, hbg, hlg⟩ := hown'.form (by omega)
        have HN : Hid (w5.ownsRow w.heap.size 3 1 (.slice (some ⟨g', 0, none⟩) (n + 1) c') (n + 1) ((knl (zs.take (k + 1))).map (Value.int .i64))) := Lib.hid (by rw [HS.out]; simpa using hown')
        have HK2 := Lib.hid ((Below.grown (hK.alloc (.cells #[.int .i64 y] 3)) hgrow (hK.alloc (.cells #[.int .i64 y] 3)).size (fun q hq => (hown.lt q hq).1)) : Keep w w5)
        clear hown' hgrow hnil hown
        go_wp2
        go_roundw
        case rel => exact ⟨k + 1, n + 1, g', c', by omega, by omega, by go_num, rfl, HN, HK2.out⟩
        case measure => simp [intOf]; omega
    · obtain rfl : k = zs.length := by omega
      have HF := Lib.hid (show wr.ownsRow w.heap.size 3 1 (.slice (some ⟨g, 0, none⟩) n cc) n ((knl zs).map (Value.int .i64)) by
        have h1 := HW.out
        rwa [List.take_length] at h1)
      go_wp2
      go_ret
      exact made_own HF.out hK
end Go.Proofs.YtohoeonfoolpdaaDoor
