/- Running means: the program and the model answer 'ruB', 'ruL'. -/
import Derived.Test.YtdccpdclpidnbabTrD
import Derived.Test.YtdccpdclpidnbabMw
namespace Go.Proofs.Ytdccpdclpidnbab
open Go.RowKit
set_option linter.unusedVariables false

theorem own_keepL {w w' : World} {base e n : Nat} {v : Value} {xs : List Value} (h : w.ownsRow base e 1 v n xs) (k : Keep w w') : w'.ownsRow base e 1 v n xs := by
  refine World.ownsRow.kept h (⟨Below.os k, Below.tape k, Below.output k, Below.size k, fun i hi _ => Below.block k i hi⟩ : w.grownBy w' none) ?_
  cases hv : v.ownBlock with
  | none => left; rfl
  | some k => right; simp
theorem ls_sg {w : World} {b off : Nat} {zs : List Int} (h : Ls w (some ⟨b, off, none⟩) zs) (k n : Nat) : Ls w (some ⟨b, off + k, none⟩) (sg zs k n) := ls_takeA (ls_dropA h k) n
set_option maxRecDepth 100000 in
set_option maxHeartbeats 4000000 in
theorem ru_impl (a : Option Addr) (cap : Nat) (zs : List Int) (dy : Int) (w : World) (h : Ls w a zs) (hm : zs.length ≤ 1048576) (hcap : zs.length ≤ cap) :
    Calls Try.prog 27 #[.slice a zs.length cap, .int .i64 dy] w (NwB (ruL zs dy) (ruB zs dy) w) := by
  have HN0 : ∀ (hb : ruB zs dy = false) (x : Option Addr) W, Keep w W → NwB (ruL zs dy) (ruB zs dy) w (.returned (.tuple #[.slice x 0 0, .bool false])) W := fun hb x W k => nwb_no (ruL_no hb) hb _ _ k
  have HN := Lib.hid HN0
  clear HN0
  have HQ := Lib.hid (fun W (k : Keep w W) => sqv_impl a cap zs W (h.keep k) (by omega))
  rcases Bool.eq_false_or_eq_true (sqB zs) with hs | hs
  case' inr =>
    have HB := Lib.hid (show ruB zs dy = false by rw [ruB, hs]; rfl)
    rw [hs] at HQ
    clear hs
    go_enter Try.func27, Try.ntmps27
    go_wp2_with fail
    refine (HQ.out _ (Keep.refl w)).mono ?_
    rintro e w1 ⟨rfl, rfl⟩
    go_wp2
    go_ret2
    exact HN.out HB.out _ _ (Keep.refl w)
  rw [hs] at HQ
  have hl := (sq_facts hs).2
  by_cases hd1 : dy < 1
  · have HB := Lib.hid (show ruB zs dy = false by rw [ruB, inB_no (by omega), Bool.and_false])
    have d1 : decide (dy < 1) = true := decide_eq_true hd1
    clear hs
    go_enter Try.func27, Try.ntmps27
    go_wp2_with fail
    refine (HQ.out _ (Keep.refl w)).mono ?_
    rintro e w1 ⟨rfl, rfl⟩
    go_wp2
    go_ret2
    exact HN.out HB.out _ _ (Keep.refl w)
  have d1 : decide (dy < 1) = false := decide_eq_false hd1
  by_cases hd2 : (zs.length : Int) < dy
  · have HB := Lib.hid (show ruB zs dy = false by rw [ruB, inB_no (by omega), Bool.and_false])
    have d2 : decide ((zs.length : Int) < dy) = true := decide_eq_true hd2
    clear hs
    go_enter Try.func27, Try.ntmps27
    go_wp2_with fail
    refine (HQ.out _ (Keep.refl w)).mono ?_
    rintro e w1 ⟨rfl, rfl⟩
    go_wp2
    go_ret2
    exact HN.out HB.out _ _ (Keep.refl w)
  obtain ⟨n, rfl⟩ := Int.eq_ofNat_of_zero_le (show 0 ≤ dy by omega)
  have d1' : decide (n < 1) = false := decide_eq_false (by omega)
  have d2 : decide ((zs.length : Int) < (n : Int)) = false := decide_eq_false hd2
  have d2' : decide (zs.length < n) = false := decide_eq_false (by omega)
  have hb := ruB_mk (n := n) hs (by omega) (by omega)
  have HB := Lib.hid hb
  have HY := Lib.hid (ruL_yes hb)
  obtain ⟨q, hq⟩ : ∃ q, zs.length - n = q := ⟨_, rfl⟩
  obtain ⟨p, hp⟩ : ∃ p, q + 1 = p := ⟨_, rfl⟩
  have e1 : (zs.length : Int) - (n : Int) = (q : Int) := by omega
  have e2 : (q : Int) + 1 = (p : Int) := by omega
  have HLn : Hid ((rul zs n).length = p) := Lib.hid (by rw [rul_len, hq, hp])
  have HPn : Hid (zs.length = n + q ∧ p = q + 1 ∧ 1 ≤ n) := Lib.hid (by omega)
  have hmk := fun W => run_make_row' (P := Try.prog) 23 3 (.int .i64 0) 8 Try.underlying23 infoInt rfl .i64 .i64 p (by omega) (by omega) W
  clear hs hb hd1 hd2 hq hp
  have hp13 : p ≤ 13 := by have := HPn.out; omega
  go_enter Try.func27, Try.ntmps27
  go_wp2_with fail
  refine (HQ.out _ (Keep.refl w)).mono ?_
  rintro e w1 ⟨rfl, rfl⟩
  go_wp2_with fail
  go_loopw [31] (fun i wr => ∃ k : Nat, k ≤ p ∧ i = .int .i64 k ∧ Hid (Wr wr w.heap.size ((rul zs n).take k ++ List.replicate (p - k) 0)) ∧ w.heap.size < wr.heap.size ∧ Keep w wr) (fun i _ => p - (intOf i).toNat)
  case atStart =>
    refine ⟨0, by omega, rfl, Lib.hid ?_, by simp, (Keep.refl w).alloc _⟩
    intro j hj
    have hj' : j < p := by simpa using hj
    refine ⟨(World.cell?_alloc_new w _ _ j).trans ?_, World.frozen?_alloc_at _ _ _ _ rfl⟩
    rw [made_at _ _ hj']
    simp [List.getD_eq_getElem?_getD, hj']
  case round =>
    obtain ⟨k, hk, rfl, HW, hlw, hK⟩ := hrel
    clear hmk
    have k0 : (0 : Int) ≤ (k : Int) := by omega
    by_cases hlt : k < p
    · have hPn := HPn.out
      obtain ⟨b, off, rfl, hb, _⟩ := (h.keep hK).all (by omega)
      obtain ⟨t, ht⟩ : ∃ t, k + n = t := ⟨_, rfl⟩
      have te : (k : Int) + (n : Int) = (t : Int) := by omega
      have tw : IntKind.i64.wrap ((k : Int) + (n : Int)) = (t : Int) := by rw [te]; exact IntWalk.i64_in _ ⟨by omega, by omega⟩
      have tk : t - k = n := by omega
      have t0 : (0 : Int) ≤ (t : Int) := by omega
      have t1 : (k : Int) ≤ (t : Int) := by omega
      have t2 : (t : Int) ≤ (cap : Int) := by omega
      have t3 : k ≤ t := by omega
      have t4 : t ≤ cap := by omega
      have qc : ¬ cap = k := by omega
      have kz : (k : Int) < (p : Int) := by omega
      have hin : k + n ≤ zs.length := by omega
      have HMn := Lib.hid (me_impl (some ⟨b, off + k, none⟩) (cap - k) (sg zs k n) 0 wr (ls_sg (h.keep hK) k n) (by rw [sg_len hin]; omega))
      rw [sg_len hin] at HMn
      have HV : Hid (ruv zs n k = if meB (sg zs k n) 0 then meV (sg zs k n) 0 else -9999) := Lib.hid rfl
      have HV2 := Lib.hid (rul_at (zs := zs) (d := n) (i := k) hin)
      have hP := part_setL HLn.out hlt
      rw [HV2.out] at hP
      have HWs := Lib.hid (HW.out.set (k := k) (v := ruv zs n k) (by rw [part_len HLn.out hk]; exact hlt))
      rw [hP] at HWs
      obtain ⟨w1, w2⟩ := HW.out k (by rw [part_len HLn.out hk]; exact hlt)
      obtain ⟨y0, hy0⟩ : ∃ y0, ((rul zs n).take k ++ List.replicate (p - k) 0).getD k 0 = y0 := ⟨_, rfl⟩
      rw [hy0] at w1
      have HWk := Lib.hid (fun W (kk : Keep wr W) => (HW.out.keep kk).set (k := k) (v := ruv zs n k) (by rw [part_len HLn.out hk]; exact hlt))
      rw [hP] at HWk
      clear hP hy0 HWs HV2 hPn ht
      generalize ruv zs n k = v at *
      generalize meB (sg zs k n) 0 = mb at *
      generalize meV (sg zs k n) 0 = mv at *
      go_wp2_with fail
      refine HMn.out.mono ?_
      rintro e w3 ⟨rfl, k3⟩
      have w1' := k3.cell w1
      have w2' := k3.still w1 w2
      have HWn := Lib.hid (HWk.out _ k3)
      have hlw3 : w.heap.size < w3.heap.size := Nat.lt_of_lt_of_le hlw k3.size
      clear HWk
      rcases Bool.eq_false_or_eq_true mb with hmb | hmb
      · have hv := HV.out
        rw [hmb, if_pos rfl] at hv
        subst hv
        rw [hmb]
        clear hmb
        go_wp2
        go_roundw
        case rel => exact ⟨k + 1, by omega, by go_num, Lib.hid (by exact HWn.out), by simpa [World.setCell] using hlw3, (hK.trans k3).setCell (Nat.le_refl _) _⟩
        case measure => simp [intOf]; omega
      · have hv := HV.out
        rw [hmb, if_neg (by simp)] at hv
        subst hv
        rw [hmb]
        clear hmb
        go_wp2
        go_roundw
        case rel => exact ⟨k + 1, by omega, by go_num, Lib.hid (by exact HWn.out), by simpa [World.setCell] using hlw3, (hK.trans k3).setCell (Nat.le_refl _) _⟩
        case measure => simp [intOf]; omega
    · obtain rfl : k = p := by omega
      have HWf : Hid (Wr wr w.heap.size (rul zs n)) := Lib.hid (by have h1 := HW.out; rw [part_all HLn.out] at h1; exact h1)
      go_wp2
      go_ret2
      rw [HY.out]
      exact nwb_made HWf.out HLn.out.symm HB.out (Nat.le_refl _) (Nat.le_refl _) hlw hK
set_option maxRecDepth 100000 in
set_option maxHeartbeats 4000000 in
theorem ru_spec (a : Option Addr) (cap : Nat) (zs : List Int) (dy : Int) (w : World) (h : Ls w a zs) (hm : zs.length ≤ 1048576) (hcap : zs.length ≤ cap) :
    Calls Try.prog 28 #[.slice a zs.length cap, .int .i64 dy] w (NwB (ruL zs dy) (ruB zs dy) w) := by
  obtain ⟨i0, hi0, hz0, hz1, hz2⟩ := info_parts infoIntO
  have HN0 : ∀ (hb : ruB zs dy = false) (x : Option Addr) W, Keep w W → NwB (ruL zs dy) (ruB zs dy) w (.returned (.tuple #[.slice x 0 0, .bool false])) W := fun hb x W k => nwb_no (ruL_no hb) hb _ _ k
  have HN := Lib.hid HN0
  clear HN0
  have HQ := Lib.hid (fun W (k : Keep w W) => sqv_spec a cap zs W (h.keep k) (by omega))
  rcases Bool.eq_false_or_eq_true (sqB zs) with hs | hs
  case' inr =>
    have HB := Lib.hid (show ruB zs dy = false by rw [ruB, hs]; rfl)
    rw [hs] at HQ
    clear hs
    go_enter Try.func28, Try.ntmps28
    go_wp2_with fail
    refine (HQ.out _ ((Keep.refl w).alloc _)).mono ?_
    rintro e w1 ⟨rfl, rfl⟩
    go_wp2
    go_ret2
    exact HN.out HB.out _ _ ((Keep.refl w).alloc _)
  rw [hs] at HQ
  have hl := (sq_facts hs).2
  have HI := Lib.hid (fun W => l6In_any dy 1 (zs.length : Int) W)
  rcases inB_cases dy 1 (zs.length : Int) with ⟨hr, hd1, hd2⟩ | ⟨hr, hd1⟩
  case' inr =>
    have HB := Lib.hid (show ruB zs dy = false by rw [ruB, hr, Bool.and_false])
    rw [hr] at HI
    clear hs hr
    go_enter Try.func28, Try.ntmps28
    go_wp2_with fail
    refine (HQ.out _ ((Keep.refl w).alloc _)).mono ?_
    rintro e w1 ⟨rfl, rfl⟩
    go_wp2_with fail
    refine (HI.out _).mono ?_
    rintro e w1 ⟨rfl, rfl⟩
    go_wp2
    go_ret2
    exact HN.out HB.out _ _ ((Keep.refl w).alloc _)
  rw [hr] at HI
  obtain ⟨n, rfl⟩ := Int.eq_ofNat_of_zero_le (show 0 ≤ dy by omega)
  have hb := ruB_mk (n := n) hs (by omega) (by omega)
  have HB := Lib.hid hb
  have HY := Lib.hid (ruL_yes hb)
  obtain ⟨p, hp⟩ : ∃ p, zs.length - n + 1 = p := ⟨_, rfl⟩
  have HLn : Hid ((rul zs n).length = p) := Lib.hid (by rw [rul_len, hp])
  have HPn : Hid (zs.length + 1 = n + p ∧ 1 ≤ n ∧ 1 ≤ p) := Lib.hid (by omega)
  clear hs hb hd1 hd2 hp hr
  have hp13 : p ≤ 13 := by have := HPn.out; omega
  have hn13 : n ≤ 13 := by have := HPn.out; omega
  go_enter Try.func28, Try.ntmps28
  go_wp2_with fail
  refine (HQ.out _ ((Keep.refl w).alloc _)).mono ?_
  rintro e w1 ⟨rfl, rfl⟩
  go_wp2_with fail
  refine (HI.out _).mono ?_
  rintro e w1 ⟨rfl, rfl⟩
  go_wp2_with fail
  go_loopw [6, 7] (fun u i wr => ∃ (k g c : Nat), k ≤ p ∧ i = .int .i64 k ∧ u = .slice (some ⟨g, 0, none⟩) k c ∧ Hid (wr.ownsRow w.heap.size 3 1 (.slice (some ⟨g, 0, none⟩) k c) k (((rul zs n).take k).map (Value.int .i64))) ∧ Keep w wr) (fun _ i _ => p - (intOf i).toNat)
  case atStart => exact ⟨0, w.heap.size, 0, by omega, rfl, rfl, Lib.hid (World.ownsRow_made w #[] 0 (Nat.le_refl _) (by unfold maxLen; omega) rfl), (Keep.refl w).alloc _⟩
  case round =>
    obtain ⟨k, g, cc, hk, rfl, rfl, HW, hK⟩ := hrel
    have hsz := hK.size
    have k0 : (0 : Int) ≤ (k : Int) := by omega
    have hPn := HPn.out
    obtain ⟨t, ht⟩ : ∃ t, k + n = t := ⟨_, rfl⟩
    have te : (k : Int) + (n : Int) = (t : Int) := by omega
    have tw : IntKind.i64.wrap ((k : Int) + (n : Int)) = (t : Int) := by rw [te]; exact IntWalk.i64_in _ ⟨by omega, by omega⟩
    by_cases hlt : k < p
    · obtain ⟨b, off, rfl, hb, _⟩ := (h.keep hK).all (by omega)
      have tk : t - k = n := by omega
      have t0 : (0 : Int) ≤ (t : Int) := by omega
      have t1 : (k : Int) ≤ (t : Int) := by omega
      have t2 : (t : Int) ≤ (cap : Int) := by omega
      have t3 : k ≤ t := by omega
      have t4 : t ≤ cap := by omega
      have qc : ¬ cap = k := by omega
      have tz : decide (t ≤ zs.length) = true := decide_eq_true (by omega)
      have hin : k + n ≤ zs.length := by omega
      have HMn := Lib.hid (me_spec (some ⟨b, off + k, none⟩) (cap - k) (sg zs k n) 0 wr (ls_sg (h.keep hK) k n) (by rw [sg_len hin]; omega))
      rw [sg_len hin] at HMn
      have HV : Hid (ruv zs n k = if meB (sg zs k n) 0 then meV (sg zs k n) 0 else -9999) := Lib.hid rfl
      have HS := Lib.hid (rul_snoc (zs := zs) (d := n) (i := k) hin)
      obtain ⟨L, hL⟩ : ∃ L, (rul zs n).take k = L := ⟨_, rfl⟩
      rw [hL] at HW HS
      clear hPn ht hL
      generalize ruv zs n k = v at *
      generalize meB (sg zs k n) 0 = mb at *
      generalize meV (sg zs k n) 0 = mv at *
      have HEnd : Hid (∀ (w9 : World) (v' : Value), w9.ownsRow w.heap.size 3 1 v' (k + 1) (L.map (Value.int .i64) ++ [.int .i64 v]) → ∃ g' c', v' = .slice (some ⟨g', 0, none⟩) (k + 1) c' ∧ Hid (w9.ownsRow w.heap.size 3 1 (.slice (some ⟨g', 0, none⟩) (k + 1) c') (k + 1) (((rul zs n).take (k + 1)).map (Value.int .i64)))) := Lib.hid (fun w9 v' ho => by
        obtain ⟨g', c', hv, hbg, hlg⟩ := ho.form (by omega)
        subst hv
        exact ⟨g', c', rfl, Lib.hid (by rw [HS.out]; simpa using ho)⟩)
      go_wp2_with fail
      refine HMn.out.mono ?_
      rintro e w3 ⟨rfl, k3⟩
      have hK3 := hK.trans k3
      have hsz3 := hK3.size
      have HW3 : Hid (w3.ownsRow w.heap.size 3 1 (.slice (some ⟨g, 0, none⟩) k cc) k (L.map (Value.int .i64))) := Lib.hid (own_keepL HW.out k3)
      rcases Bool.eq_false_or_eq_true mb with hmb | hmb
      · have hv := HV.out
        rw [hmb, if_pos rfl] at hv
        subst hv
        rw [hmb]
        clear hmb
        have hown : w3.ownsRow w.heap.size 3 1 _ _ _ := HW3.out
        go_wp2_with (at_builtin; refine wpList_append_own _ rfl _ _ 23 rfl w.heap.size 3 i0 (.int .i64 0) 1 8 Try.underlying23 hi0 hz0 hz1 hz2 rfl (by decide) _ _ _ rfl (hown.alloc _) ⟨w3.heap.size, 0, none⟩ 1 1 [.int .i64 v] rfl rfl ?c1a ?c2a ?c3a ?c4a ?c5a ?_)
        try case c1a =>
          intro j u hj
          match j, hj with
          | 0, hj => simp at hj; subst hj; simp [Addr.add]
        case c2a => first | rfl | (intro u hu; simp at hu; subst hu; rfl)
        case c3a => unfold maxLen; omega
        case c4a => omega
        case c5a => first | omega | (simp; omega)
        intro v' w9 hown' hgrow hnil
        have HK2 : Hid (Keep w w9) := Lib.hid (Below.grown (hK3.alloc (.cells #[.int .i64 v] 3)) hgrow (hK3.alloc (.cells #[.int .i64 v] 3)).size (fun q hq => (hown.lt q hq).1))
        clear hgrow hnil hown
        obtain ⟨g', c', rfl, HN2⟩ := HEnd.out w9 v' hown'
        clear hown'
        go_wp2
        go_roundw
        case rel => exact ⟨k + 1, g', c', by omega, by go_num, rfl, HN2, HK2.out⟩
        case measure => simp [intOf]; omega
      · have hv := HV.out
        rw [hmb, if_neg (by simp)] at hv
        subst hv
        rw [hmb]
        clear hmb
        have hown : w3.ownsRow w.heap.size 3 1 _ _ _ := HW3.out
        go_wp2_with (at_builtin; refine wpList_append_own _ rfl _ _ 23 rfl w.heap.size 3 i0 (.int .i64 0) 1 8 Try.underlying23 hi0 hz0 hz1 hz2 rfl (by decide) _ _ _ rfl (hown.alloc _) ⟨w3.heap.size, 0, none⟩ 1 1 [.int .i64 (-9999)] rfl rfl ?c1a ?c2a ?c3a ?c4a ?c5a ?_)
        try case c1a =>
          intro j u hj
          match j, hj with
          | 0, hj => simp at hj; subst hj; simp [Addr.add]
        case c2a => first | rfl | (intro u hu; simp at hu; subst hu; rfl)
        case c3a => unfold maxLen; omega
        case c4a => omega
        case c5a => first | omega | (simp; omega)
        intro v' w9 hown' hgrow hnil
        have HK2 : Hid (Keep w w9) := Lib.hid (Below.grown (hK3.alloc (.cells #[.int .i64 (-9999)] 3)) hgrow (hK3.alloc (.cells #[.int .i64 (-9999)] 3)).size (fun q hq => (hown.lt q hq).1))
        clear hgrow hnil hown
        obtain ⟨g', c', rfl, HN2⟩ := HEnd.out w9 v' hown'
        clear hown'
        go_wp2
        go_roundw
        case rel => exact ⟨k + 1, g', c', by omega, by go_num, rfl, HN2, HK2.out⟩
        case measure => simp [intOf]; omega
    · obtain rfl : k = p := by omega
      have tz : decide (t ≤ zs.length) = false := decide_eq_false (by omega)
      have HF : Hid (OwI wr w.heap.size (.slice (some ⟨g, 0, none⟩) k cc) (rul zs n)) := Lib.hid (by
        have h1 := HW.out
        rw [List.take_of_length_le (by rw [HLn.out]; exact Nat.le_refl _)] at h1
        unfold OwI
        rw [HLn.out]; exact h1)
      go_wp2
      go_ret2
      rw [HY.out]
      exact nwb_own HF.out HB.out (Nat.le_refl _) hK
end Go.Proofs.Ytdccpdclpidnbab
