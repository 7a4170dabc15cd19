/- PairsOf and TrendOf: the program. -/
import Derived.Test.YtkiibklenpncpaaPx
import Derived.Test.YtkiibklenpncpaaPz
import Derived.Test.YtkiibklenpncpaaMd
import Derived.Test.YtkiibklenpncpaaShelf
import Derived.Deep.LoopGhost
import Derived.Deep.QuietTactic
import Derived.BigQuiet
import Derived.LoopTactic
import Derived.IntWalk
namespace Go.Proofs.Ytkiibklenpncpaa
open Go.RowKit
set_option linter.unusedVariables false

set_option maxRecDepth 100000 in
set_option maxHeartbeats 2000000 in
theorem pp_impl (a : Option Addr) (cap : Nat) (zs : List Int) (w : World) (h : Ls w a zs) (hm : zs.length ≤ 1048576) :
    Calls Try.prog 79 #[.slice a zs.length cap] w fun e w' => e = .returned (.tuple #[.int .i64 (prU zs), .int .i64 (prD zs)]) ∧ Keep w w' := by
  have HQ := Lib.hid (sqv_impl a cap zs w h (by omega))
  rcases Bool.eq_false_or_eq_true (sqB zs) with hs | hs
  case' inr =>
    rw [(pr_no hs).1, (pr_no hs).2]
    rw [hs] at HQ
    clear hs
    go_enter Try.func79, Try.ntmps79
    go_wp2_with fail
    refine HQ.out.mono ?_
    rintro e w1 ⟨rfl, rfl⟩
    go_wp2
    go_ret2
    exact ⟨rfl, Keep.refl _⟩
  have hkl : (knl zs).length ≤ 12 := Nat.le_trans (knl_le zs) (sq_facts hs).2.2
  have hnn := pr_yes hs
  rw [hnn.1, hnn.2]
  rw [hs] at HQ
  have hz1 := (sq_facts hs).2.1
  have HKn := Lib.hid (fun W (k : Keep w W) => kvs_any a cap zs W (h.keep k) (by omega) hm)
  have HBd := Lib.hid (fun k => p_bd ((knl zs).take k) (by rw [List.length_take]; omega))
  have HP := Lib.hid (fun k (h : k < (knl zs).length) => pU_take h)
  clear hs hnn
  generalize knl zs = L at *
  go_enter Try.func79, Try.ntmps79
  go_wp2_with fail
  refine HQ.out.mono ?_
  rintro e w1 ⟨rfl, rfl⟩
  go_wp2_with fail
  refine (HKn.out _ ((Keep.refl w).alloc _)).mono ?_
  rintro e w2 ⟨gk, ck, rfl, hck, hW, hgk, hgl, k2⟩
  have hz0 : (w.alloc (.cells #[.pointer none] 151)).cell? ⟨w.heap.size, 0, none⟩ = some (.pointer none) := World.cell?_alloc_new w _ _ 0
  have r0 := k2.cell hz0
  have rf := k2.still hz0 (World.frozen?_alloc_at _ _ _ _ rfl)
  have hgR : w.heap.size + 1 ≤ gk := by simpa using hgk
  have HW := Lib.hid hW
  have K2 : Keep w w2 := ((Keep.refl w).alloc _).trans k2
  clear hW HQ HKn k2
  go_wp2_with fail
  go_loopw [5, 6, 17] (fun u d i wr => ∃ (k : Nat) (Tt : Tr), k ≤ L.length ∧ i = .int .i64 (k : Int) ∧ u = .int .i64 (pU (L.take k) : Int) ∧ d = .int .i64 (pD (L.take k) : Int) ∧ Hid (Has wr ⟨w.heap.size, 0, none⟩ Tt) ∧ Hid (Apart ⟨w.heap.size, 0, none⟩ [] Tt) ∧ Hid (Tt.WF (L.take k)) ∧ Hid (gk ∉ w.heap.size :: Tt.bl) ∧ Hid (∀ b ∈ Tt.bl, w.heap.size ≤ b) ∧ Hid (∀ i, i < L.length → wr.cell? ⟨gk, i, none⟩ = some (.int .i64 (L.getD i 0))) ∧ Keep w wr) (fun _ _ i _ => L.length - (intOf i).toNat)
  case atStart => exact ⟨0, .leaf, by omega, rfl, rfl, rfl, Lib.hid ⟨r0, rf⟩, Lib.hid (by simp [Apart, blC, Tr.bl]), Lib.hid rfl, Lib.hid (by simp [Tr.bl]; omega), Lib.hid (by simp [Tr.bl]), Lib.hid (fun i hi => (HW.out i hi).1), K2⟩
  case round =>
    obtain ⟨k, Tt, hk, rfl, rfl, rfl, HH, HA, HWF, HGk, HBl, HWr, hK⟩ := hrel
    by_cases hlt : k < L.length
    · have cz := HWr.out k hlt
      have HPk := Lib.hid (HP.out k hlt)
      have hb := HBd.out k
      have hb1 := HBd.out (k + 1)
      have HWF2 : Hid (∀ t : Tr, t.WF (L.take k ++ [L.getD k 0]) → t.WF (L.take (k + 1))) := Lib.hid (fun t ht => by
        rw [List.take_succ_eq_append_getElem hlt]
        simpa [List.getD_eq_getElem?_getD, hlt] using ht)
      have HAdd := Lib.hid (add_any w.heap.size Tt (L.take k) (L.getD k 0) wr HH.out HA.out HWF.out (by rw [List.length_take]; omega))
      have hcl : cLt (L.take k) (L.getD k 0) ≤ 12 ∧ cGt (L.take k) (L.getD k 0) ≤ 12 := by
        have h1 : cLt (L.take k) (L.getD k 0) ≤ (L.take k).length := List.countP_le_length
        have h2 : cGt (L.take k) (L.getD k 0) ≤ (L.take k).length := List.countP_le_length
        rw [List.length_take] at h1 h2; omega
      have hgw := World.block_lt_of_cell? wr _ cz
      have ew1 : IntKind.i64.wrap ((pU (L.take k) : Int) + (cLt (L.take k) (L.getD k 0) : Int)) = ((pU (L.take k) + cLt (L.take k) (L.getD k 0) : Nat) : Int) := wrap_add _ _ (by omega)
      have ew2 : IntKind.i64.wrap ((pD (L.take k) : Int) + (cGt (L.take k) (L.getD k 0) : Int)) = ((pD (L.take k) + cGt (L.take k) (L.getD k 0) : Nat) : Int) := wrap_add _ _ (by omega)
      rw [← HPk.out.1] at ew1
      rw [← HPk.out.2] at ew2
      have hsz := hK.size
      generalize L.getD k 0 = x at *
      go_wp2_with fail
      refine HAdd.out.mono ?_
      rintro e w3 ⟨T', rfl, hH', hA', hWF', hbl', hOff⟩
      have HH3 := Lib.hid hH'
      have HA3 := Lib.hid hA'
      have HWF3 := Lib.hid (HWF2.out _ hWF')
      have HGk3 : Hid (gk ∉ w.heap.size :: T'.bl) := Lib.hid (by
        intro hm
        rcases List.mem_cons.1 hm with h | h
        · omega
        · rcases hbl' _ h with h | h
          · exact HGk.out (List.mem_cons_of_mem _ h)
          · have : gk < wr.heap.size := hgw
            omega)
      have HBl3 : Hid (∀ b ∈ T'.bl, w.heap.size ≤ b) := Lib.hid (fun b hb => by
        rcases hbl' _ hb with h | h
        · exact HBl.out _ h
        · omega)
      have HWr3 : Hid (∀ i, i < L.length → w3.cell? ⟨gk, i, none⟩ = some (.int .i64 (L.getD i 0))) := Lib.hid (fun i hi => hOff.cell HGk.out (HWr.out i hi))
      have hK3 : Keep w w3 := Below.trans hK (hOff.below (fun x hx => by
        rcases List.mem_cons.1 hx with h | h
        · omega
        · exact HBl.out _ h) hsz)
      clear hH' hA' hWF' hbl' hOff HAdd
      go_wp2
      go_roundw
      case measure => simp [intOf]; omega
      case rel => exact ⟨k + 1, T', by omega, by go_num, by first | rfl | go_num | simp, by first | rfl | go_num | simp, HH3, HA3, HWF3, HGk3, HBl3, HWr3, hK3⟩
    · obtain rfl : k = L.length := by omega
      rw [List.take_length] at *
      go_wp2
      go_ret2
      exact ⟨rfl, hK⟩
set_option maxRecDepth 100000 in
set_option maxHeartbeats 2000000 in
theorem tv_impl (a : Option Addr) (cap : Nat) (zs : List Int) (w : World) (h : Ls w a zs) (hm : zs.length ≤ 1048576) :
    Calls Try.prog 38 #[.slice a zs.length cap] w fun e w' => e = .returned (.int .i64 (trV zs)) ∧ Keep w w' := by
  have HQ := Lib.hid (sqv_impl a cap zs w h (by omega))
  rcases Bool.eq_false_or_eq_true (sqB zs) with hs | hs
  case' inr =>
    rw [tr_no hs]
    rw [hs] at HQ
    clear hs
    go_enter Try.func38, Try.ntmps38
    go_wp2_with fail
    refine HQ.out.mono ?_
    rintro e w1 ⟨rfl, rfl⟩
    go_wp2
    go_ret
    exact ⟨rfl, Keep.refl _⟩
  have HY := Lib.hid (tr_yes hs)
  have HPP := Lib.hid (pp_impl a cap zs w h hm)
  rw [hs] at HQ
  clear hs
  go_enter Try.func38, Try.ntmps38
  go_wp2_with fail
  refine HQ.out.mono ?_
  rintro e w1 ⟨rfl, rfl⟩
  generalize prU zs = u at *
  generalize prD zs = d at *
  obtain ⟨t, ht⟩ : ∃ t, trV zs = t := ⟨_, rfl⟩
  rw [ht] at HY
  have HTv := Lib.hid ht
  clear ht
  go_wp2_with fail
  refine HPP.out.mono ?_
  rintro e w2 ⟨rfl, k2⟩
  go_wp2_with fail
  have hcmp : Lib.compareInt u d = t := by
    rw [HY.out]; unfold Lib.compareInt
    repeat' split
    all_goals (first | rfl | omega | (simp at *; omega))
  refine (Try.cmp_Compare_int u d w2).mono ?_
  rintro e w3 ⟨rfl, rfl⟩
  rw [hcmp]
  go_wp2
  go_ret
  exact ⟨retI HTv.out.symm, k2⟩
end Go.Proofs.Ytkiibklenpncpaa
