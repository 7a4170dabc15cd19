/- SortedOf: the program puts each value at its place by a binary search. -/
import Derived.Shelf.Slices.Empties
import Derived.Test.YtlaajompcbmdoacSd
import Derived.Test.YtlaajompcbmdoacIns
import Derived.Test.YtlaajompcbmdoacMd
namespace Go.Proofs.Ytlaajompcbmdoac
open Go.RowKit
set_option linter.unusedVariables false

theorem cnt_place {x : Int} : ∀ {zs : List Int}, zs.Pairwise (fun a b => a ≤ b) → (∀ j, j < zs.countP (· < x) → zs.getD j 0 < x) ∧ (∀ j, zs.countP (· < x) ≤ j → j < zs.length → x ≤ zs.getD j 0)
  | [], _ => ⟨fun j h => by simp at h, fun j _ h => by simp at h⟩
  | y :: r, h => by
    rw [List.pairwise_cons] at h
    obtain ⟨i1, i2⟩ := cnt_place (x := x) h.2
    by_cases hy : y < x
    · rw [List.countP_cons_of_pos (by simpa using hy)]
      refine ⟨fun j hj => ?_, fun j hj hl => ?_⟩
      · match j with
        | 0 => simpa using hy
        | j + 1 => simpa using i1 j (by omega)
      · match j with
        | 0 => omega
        | j + 1 => simpa using i2 j (by omega) (by simpa using hl)
    · have h0 : (y :: r).countP (· < x) = 0 := by
        rw [List.countP_eq_zero]
        intro z hz
        rw [List.mem_cons] at hz
        rcases hz with rfl | hz
        · simpa using hy
        · have := h.1 z hz; simp; omega
      rw [h0]
      refine ⟨fun j hj => by omega, fun j _ hl => ?_⟩
      match j with
      | 0 => simp; omega
      | j + 1 =>
        have hl' : j < r.length := by simpa using hl
        have h1 := h.1 (r.getD j 0) (getD_mem hl')
        show x ≤ r.getD j 0
        omega
theorem sorted_step {L : List Int} {k p : Nat} (hk : k < L.length) (hp : p = (sorted (L.take k)).countP (· < L.getD k 0)) : (sorted (L.take k)).take p ++ [L.getD k 0] ++ (sorted (L.take k)).drop p = sorted (L.take (k + 1)) := by
  obtain ⟨h1, h2⟩ := cnt_place (x := L.getD k 0) (sorted_pw (L.take k))
  rw [← hp] at h1 h2
  have hle : p ≤ (sorted (L.take k)).length := by rw [hp]; exact List.countP_le_length
  rw [sorted_put hle (fun j hj => Int.le_of_lt (h1 j hj)) h2]
  rw [List.take_succ_eq_append_getElem hk]
  simp [List.getD_eq_getElem?_getD, hk]
theorem bs_any {base : Nat} {w : World} {v : Value} {zs : List Int} (x : Int) (h : OwI w base v zs) (hs : zs.Pairwise (fun a b => a ≤ b)) (hz : zs.length ≤ 1048576) :
    Calls Try.prog 53 #[v, .int .i64 x] w fun e w' => ∃ b, e = .returned (.tuple #[.int .i64 (zs.countP (· < x) : Nat), .bool b]) ∧ OwI w' base v zs ∧ Keep w w' := by
  rcases id h.2 with ⟨rfl, h0⟩ | ⟨g, cap, cur, rfl, hbg, hg, hnc, hcm, hcs, htk⟩
  · have hn : zs = [] := List.eq_nil_of_length_eq_zero h0
    subst hn
    refine (Any.slices_BinarySearch_int_empty Try.laysNm225 none 0 x w).mono ?_
    rintro e w' ⟨rfl, rfl⟩
    exact ⟨false, rfl, h, Keep.refl _⟩
  · by_cases h0 : zs.length = 0
    · have hn : zs = [] := List.eq_nil_of_length_eq_zero h0
      subst hn
      refine (Any.slices_BinarySearch_int_empty Try.laysNm225 (some ⟨g, 0, none⟩) cap x w).mono ?_
      rintro e w' ⟨rfl, rfl⟩
      exact ⟨false, rfl, h, Keep.refl _⟩
    · refine (Try.slices_BinarySearch_int g 0 zs.length cap zs x w (Nat.le_refl _) (by omega) (fun j hj => ?_) (by rw [List.take_length]; exact hs)).mono ?_
      · rw [Nat.zero_add, World.ownsRow.cellAt h j (by omega)]
        simp [List.getD_eq_getElem?_getD, hj]
      · rintro e w' ⟨rfl, q, rfl⟩
        rw [List.take_length]
        exact ⟨_, rfl, h.keep ((Keep.refl w).drewN q), (Keep.refl w).drewN q⟩
set_option maxRecDepth 100000 in
set_option maxHeartbeats 2000000 in
theorem io_any (a : Option Addr) (cap : Nat) (L : List Int) (w : World) (h : Ls w a L) (hm : L.length ≤ 1000) :
    Calls Try.prog 41 #[.slice a L.length cap] w (NwL (sorted L) w) := by
  go_enter Try.func41, Try.ntmps41
  go_wp2_with fail
  go_loopw [3, 10] (fun v i wr => ∃ k : Nat, k ≤ L.length ∧ i = .int .i64 k ∧ Hid (OwI wr w.heap.size v (sorted (L.take k))) ∧ Keep w wr) (fun _ i _ => L.length - (intOf i).toNat)
  case atStart => exact ⟨0, by omega, rfl, Lib.hid (by rw [List.take_zero, sorted_nil]; exact OwI.nil _ _), Keep.refl w⟩
  case round =>
    obtain ⟨k, hk, rfl, HO, hK⟩ := hrel
    have hsz := hK.size
    by_cases hlt : k < L.length
    · obtain ⟨bz, oz, rfl, hbz, cz⟩ := (h.keep hK).at_ hlt
      have HSt := Lib.hid (fun p hp => sorted_step (p := p) hlt hp)
      have HPw := Lib.hid (sorted_pw (L.take k))
      have HLn : Hid ((sorted (L.take k)).length = k) := Lib.hid (by rw [sorted_length, List.length_take]; omega)
      obtain ⟨x, hx⟩ : ∃ x, L.getD k 0 = x := ⟨_, rfl⟩
      rw [hx] at cz HSt
      clear hx
      obtain ⟨S2, hS2⟩ : ∃ S2, sorted (L.take (k + 1)) = S2 := ⟨_, rfl⟩
      rw [hS2] at HSt
      have HS2 := Lib.hid hS2
      clear hS2
      generalize sorted (L.take k) = S at *
      have HB := Lib.hid (bs_any x HO.out HPw.out (by have := HLn.out; omega))
      have k0 : (0 : Int) ≤ (k : Int) := by omega
      have kz : (k : Int) < (L.length : Int) := by omega
      have hple : S.countP (· < x) ≤ S.length := List.countP_le_length
      have HSp := Lib.hid (HSt.out _ rfl)
      clear HSt
      generalize S.countP (· < x) = p at *
      go_wp2_with fail
      refine HB.out.mono ?_
      rintro e w4 ⟨b, rfl, hO4, k4⟩
      have K4 := hK.trans k4
      have hs4 := K4.size
      have HI := Lib.hid (ins_any p x hO4 hs4 hple (by have := HLn.out; omega))
      clear HB hO4
      go_wp2_with fail
      refine HI.out.mono ?_
      rintro e w5 ⟨v5, rfl, hO5, hk5⟩
      rw [HSp.out] at hO5
      have K5 := hk5 w (Nat.le_refl _) K4
      have HO5 := Lib.hid hO5
      clear HI hO5 hk5
      go_wp2
      go_roundw
      case rel => exact ⟨k + 1, by omega, by go_num, by rw [HS2.out]; exact HO5, K5⟩
      case measure => simp [intOf]; omega
    · obtain rfl : k = L.length := by omega
      rw [List.take_length] at HO
      obtain ⟨y, cy, rfl, _, _⟩ := HO.out.slice
      have HF := Lib.hid (nwl_own HO.out (Nat.le_refl _) hK)
      go_wp2
      go_ret
      exact HF.out
set_option maxRecDepth 100000 in
set_option maxHeartbeats 1000000 in
theorem so_impl (a : Option Addr) (cap : Nat) (zs : List Int) (w : World) (h : Ls w a zs) (hm : zs.length ≤ 1048576) :
    Calls Try.prog 21 #[.slice a zs.length cap] w (NwL (soL zs) w) := by
  have HQ := Lib.hid (sqv_impl a cap zs w h (by omega))
  rcases Bool.eq_false_or_eq_true (sqB zs) with hq | hq
  case' inr =>
    have HF := Lib.hid (soL_no hq)
    rw [hq] at HQ
    clear hq
    go_enter Try.func21, Try.ntmps21
    go_wp2_with fail
    refine HQ.out.mono ?_
    rintro e w1 ⟨rfl, rfl⟩
    go_wp2
    go_ret
    exact nwl_no HF.out none 0 (Keep.refl _)
  have HF := Lib.hid (soL_yes hq)
  have hl1 := (sq_facts hq).2.1
  have hl2 := (sq_facts hq).2.2
  have hkl := knl_le zs
  rw [hq] at HQ
  clear hq
  go_enter Try.func21, Try.ntmps21
  go_wp2_with fail
  refine HQ.out.mono ?_
  rintro e w1 ⟨rfl, rfl⟩
  go_wp2_with fail
  refine (kvs_any a cap zs _ h (by omega) hm).mono ?_
  rintro e w2 ⟨g, c, rfl, hc, hW, hg, hgl, k2⟩
  go_wp2_with fail
  refine (io_any (some ⟨g, 0, none⟩) c (knl zs) _ hW.ls (by omega)).mono ?_
  rintro e w3 ⟨y, cy, rfl, hcy, hFr, k3⟩
  go_wp2
  go_ret
  rw [HF.out]
  refine ⟨y, cy, rfl, hcy, ?_, k2.trans k3⟩
  have hs2 := k2.size
  rcases hFr with hn | ⟨g9, e9, h1, h2, h3⟩
  · exact .inl hn
  · exact .inr ⟨g9, e9, by omega, h2, h3⟩
end Go.Proofs.Ytlaajompcbmdoac
