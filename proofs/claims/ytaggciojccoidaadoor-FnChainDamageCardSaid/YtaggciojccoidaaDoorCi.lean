/- ChainOf: the program and the model answer 'chL'. -/
import Derived.Test.YtaggciojccoidaaDoorCh
import Derived.Test.YtaggciojccoidaaDoorTxI
import Derived.Test.YtaggciojccoidaaDoorTxS
import Derived.Test.YtaggciojccoidaaDoorOi
import Derived.Test.YtaggciojccoidaaDoorTi
import Derived.LoopTactic
import Derived.IntWalk
import Derived.Outline
namespace Go.Proofs.YtaggciojccoidaaDoor
open Go.RowKit
set_option linter.unusedVariables false

theorem txR_size (r : R4) : (txR r).size ≤ 24 := by
  unfold txR
  rcases Bool.eq_false_or_eq_true (rOk (rS r) (rD r) (rK r) (rV r)) with h | h
  · rw [tx_yes h]
    have := txt_len h
    simpa [ByteArray.size] using this
  · rw [tx_no h]; simp [ByteArray.size]
theorem partC_set {L : List Int} {k n : Nat} (hn : L.length = n) (hk : k < n) : (L.take k ++ List.replicate (n - k) 0).set k (L.getD k 0) = L.take (k + 1) ++ List.replicate (n - (k + 1)) 0 := by
  subst hn; exact part_set L k hk
theorem partC_len {L : List Int} {k n : Nat} (hn : L.length = n) (hk : k ≤ n) : (L.take k ++ List.replicate (n - k) 0).length = n := by
  simp; omega
theorem nwl_madeC {L : List Int} {w w' : World} {g n c : Nat} (h : Wr w' g L) (hn : n = L.length) (hc : n ≤ c) (hg : w.heap.size ≤ g) (hl : g < w'.heap.size) (k : Keep w w') : NwL L w (.returned (.slice (some ⟨g, 0, none⟩) n c)) w' := by
  subst hn
  exact ⟨_, c, rfl, hc, .inr ⟨g, rfl, hg, hl, h⟩, k⟩
set_option maxRecDepth 100000 in
set_option maxHeartbeats 1000000 in
theorem chained_any (n : Nat) (s : ByteArray) (w : World) (hn : n < 9973) (hs : s.size ≤ 4611686018427387904) :
    Calls Tryd.prog 30 #[.int .i64 (n : Int), .string s] w fun e w' => e = .returned (.int .i64 (chF n s.data.toList : Int)) ∧ w = w' := by
  go_enter Tryd.func30, Tryd.ntmps30
  go_wp2_with fail
  go_loop [0, 8] (fun u i => ∃ (k m : Nat), k ≤ s.size ∧ m < 9973 ∧ i = .int .i64 k ∧ u = .int .i64 m ∧ Hid (m = chF n (s.data.toList.take k))) (fun _ i => s.size - (intOf i).toNat)
  case atStart => exact ⟨0, n, by omega, hn, rfl, rfl, Lib.hid (by simp [chF])⟩
  case round =>
    obtain ⟨k, m, hk, hm, rfl, rfl, HN⟩ := hrel
    by_cases hlt : k < s.size
    · have HX := Lib.hid (ch_next n hlt)
      rw [← HN.out] at HX
      have hb := s[k].toNat_lt
      obtain ⟨m2, hm2⟩ : ∃ m2, (31 * m + s[k].toNat) % 9973 = m2 := ⟨_, rfl⟩
      have HM := Lib.hid hm2
      have hm97 : m2 < 9973 := by omega
      have hti : Int.tmod (31 * (m : Int) + (s[k].toNat : Int)) 9973 = (m2 : Int) := by
        rw [← hm2]
        have h9 := Int.ofNat_tmod (31 * m + s[k].toNat) 9973
        push_cast at h9
        omega
      clear hm2
      go_wp2
      go_round
      case rel => exact ⟨k + 1, m2, by omega, hm97, by go_num, by first | rfl | (congr 1), Lib.hid (by rw [HX.out, HM.out])⟩
      case measure => simp [intOf]; omega
    · obtain rfl : k = s.size := by omega
      have HF : Hid ((m : Int) = (chF n s.data.toList : Int)) := Lib.hid (by
        have := HN.out
        rw [ch_all] at this
        omega)
      go_wp2
      go_ret
      exact ⟨retI HF.out, rfl⟩
set_option maxRecDepth 100000 in
set_option maxHeartbeats 4000000 in
theorem ch_impl (a : Option Addr) (cap : Nat) (rs : List R4) (w : World) (h : Rs w a rs) (hm : rs.length ≤ 1048576) (T : Tabs w) :
    Calls Tryd.prog 10 #[.slice a rs.length cap] w (NwL (chL rs) w) := by
  have HT := Lib.hid T
  clear T
  rcases Bool.eq_false_or_eq_true (stB rs) with hs | hs
  case' inr =>
    have H : Hid (chL rs = []) := Lib.hid (chL_no hs)
    go_enter Tryd.func10, Tryd.ntmps10
    go_wp2_with (go_at_call 29; refine (sv_impl a cap rs _ h (by omega)).mono ?_; rintro e w1 ⟨he, k1⟩; rw [hs] at he; subst he)
    go_ret
    exact nwl_no H.out none 0 k1
  have hl := (stB_facts hs).2
  have HO := Lib.hid (chL_yes hs)
  have HSV := Lib.hid (sv_impl a cap rs w h (by omega))
  rw [hs] at HSV
  have HAt := Lib.hid (fun k (hk : k < rs.length) W (kW : Keep w W) => (h.keep kW).at_ hk)
  obtain ⟨n, hn⟩ : ∃ n, n = rs.length := ⟨_, rfl⟩
  rw [← hn] at HSV HAt HO hl hm ⊢
  have hmk := fun W => run_make_row' (P := Tryd.prog) 25 3 (.int .i64 0) 8 Tryd.underlying25 infoIntO rfl .i64 .i64 n (by omega) (by omega) W
  have HLn : Hid ((chP rs n).length = n) := Lib.hid (chP_len rs n)
  clear hs h hn
  go_enter Tryd.func10, Tryd.ntmps10
  go_wp2_with fail
  refine HSV.out.mono ?_
  rintro e w1 ⟨rfl, k1⟩
  have hz := k1.size
  have hmk2 := hmk w1
  clear hmk HSV
  go_wp2_with fail
  go_loopw [4, 15] (fun u i wr => ∃ (k m : Nat), k ≤ n ∧ m < 9973 ∧ i = .int .i64 k ∧ u = .int .i64 (m : Int) ∧ Hid (m = chN rs k) ∧ Hid (Wr wr w1.heap.size ((chP rs n).take k ++ List.replicate (n - k) 0)) ∧ w1.heap.size < wr.heap.size ∧ Keep w1 wr) (fun _ i _ => n - (intOf i).toNat)
  case atStart =>
    refine ⟨0, 1, by omega, by omega, rfl, rfl, Lib.hid rfl, Lib.hid ?_, by simp, (Keep.refl w1).alloc _⟩
    intro j hj
    have hj' : j < n := by simpa using hj
    refine ⟨(World.cell?_alloc_new w1 _ _ j).trans ?_, World.frozen?_alloc_at _ _ _ _ rfl⟩
    rw [made_at _ _ hj']
    simp [List.getD_eq_getElem?_getD, hj']
  case round =>
    obtain ⟨k, m, hk, hm9, rfl, rfl, HN, HW, hlw, hK⟩ := hrel
    clear hmk2
    by_cases hlt : k < n
    · have kw := k1.trans hK
      obtain ⟨bb, off, rfl, hb, hcc⟩ := HAt.out k hlt wr kw
      obtain ⟨c0, c1, c2, c3⟩ := hcc
      have HNx : Hid (chN rs (k + 1) = chF m (txR (rs.getD k r0)).data.toList) := Lib.hid (by rw [chN, ← HN.out])
      have HVal : Hid ((chP rs n).getD k 0 = (chN rs (k + 1) : Int)) := Lib.hid (chP_at rs hlt)
      have hsz := txR_size (rs.getD k r0)
      have hnl := chN_lt rs (k + 1)
      have hP := partC_set HLn.out hlt
      rw [HVal.out] at hP
      have HP := Lib.hid hP
      have HWl := Lib.hid (partC_len (k := k) HLn.out hk)
      have HTX : Hid (txR (rs.getD k r0) = tx (rS (rs.getD k r0)) (rD (rs.getD k r0)) (rK (rs.getD k r0)) (rV (rs.getD k r0))) := Lib.hid rfl
      generalize txR (rs.getD k r0) = t at *
      generalize rS (rs.getD k r0) = x0 at c0 HTX
      generalize rD (rs.getD k r0) = x1 at c1 HTX
      generalize rK (rs.getD k r0) = x2 at c2 HTX
      generalize rV (rs.getD k r0) = x3 at c3 HTX
      have HTt := Lib.hid (fun W (kW : Keep w W) => text_impl x0 x1 x2 x3 W (HT.out.keep kW))
      rw [← HTX.out] at HTt
      have HCh := Lib.hid (fun W => chained_any m t W hm9 (by omega))
      rw [← HNx.out] at HCh
      obtain ⟨m2, hm2⟩ : ∃ m2, chN rs (k + 1) = m2 := ⟨_, rfl⟩
      have HM2 := Lib.hid hm2
      rw [hm2] at HCh HP hnl
      clear HVal hP HTX HNx hm2
      go_wp2_with fail
      refine (HTt.out _ (by first | exact kw.alloc _ | exact kw)).mono ?_
      rintro e w2 ⟨rfl, k2⟩
      go_wp2_with fail
      refine (HCh.out _).mono ?_
      rintro e w3 ⟨rfl, rfl⟩
      have HW2 := Lib.hid ((HW.out.keep ((Keep.refl wr).alloc _)).keep k2)
      obtain ⟨u0, u1⟩ := HW2.out k (by rw [HWl.out]; exact hlt)
      have HW3 := Lib.hid (HW2.out.set (by rw [HWl.out]; exact hlt) ((m2 : Nat) : Int))
      rw [HP.out] at HW3
      have K3 : Keep w1 w2 := (hK.alloc _).trans k2
      have hl2 : w1.heap.size < w2.heap.size := Nat.lt_of_lt_of_le hlw (Nat.le_trans (by simp) k2.size)
      generalize ((chP rs n).take k ++ List.replicate (n - k) 0).getD k 0 = dv at u0
      clear HW HW2 hlw
      go_wp2
      go_roundw
      case rel => exact ⟨k + 1, m2, by omega, hnl, by go_num, rfl, Lib.hid HM2.out.symm, HW3, by simpa using hl2, K3.setCell (Nat.le_refl _) _⟩
      case measure => simp [intOf]; omega
    · obtain rfl : k = n := by omega
      have HF : Hid (Wr wr w1.heap.size (chL rs)) := Lib.hid (by
        have h1 := HW.out
        rw [Nat.sub_self, List.replicate_zero, List.append_nil, List.take_of_length_le (by rw [HLn.out]; exact Nat.le_refl _)] at h1
        rw [HO.out]; exact h1)
      have HNN : Hid (k = (chL rs).length) := Lib.hid (by rw [HO.out, HLn.out])
      go_wp2
      go_ret
      exact nwl_madeC HF.out HNN.out (Nat.le_refl _) hz hlw (k1.trans hK)
set_option maxRecDepth 100000 in
set_option maxHeartbeats 4000000 in
theorem ch_spec (a : Option Addr) (cap : Nat) (rs : List R4) (w : World) (h : Rs w a rs) (hm : rs.length ≤ 1048576) :
    Calls Tryd.prog 11 #[.slice a rs.length cap] w (NwL (chL rs) w) := by
  obtain ⟨i0, hi0, hz0, hz1, hz2⟩ := info_parts infoIntO
  rcases Bool.eq_false_or_eq_true (stB rs) with hs | hs
  case' inr =>
    have H : Hid (chL rs = []) := Lib.hid (chL_no hs)
    have HB := Lib.hid hs
    clear hs
    go_enter Tryd.func11, Tryd.ntmps11
    go_wp2_with fail
    go_loopw [3, 5] (fun u i wr => ∃ (g c : Nat), i = .int .i64 0 ∧ u = .slice (some ⟨g, 0, none⟩) 0 c ∧ Keep w wr) (fun _ i _ => 1)
    case atStart => exact ⟨_, _, rfl, rfl, (Keep.refl w).alloc _⟩
    case round =>
      obtain ⟨g, c, rfl, rfl, hK⟩ := hrel
      have HS := Lib.hid (sv_spec a cap rs wr (h.keep hK) (by omega))
      rw [HB.out] at HS
      by_cases h0 : 0 < (rs.length : Int)
      · go_wp2_with (go_at_call 13; refine HS.out.mono ?_; rintro e w1 ⟨rfl, k1⟩)
        go_ret
        exact nwl_no H.out _ _ (hK.trans k1)
      · go_wp2_with fail
        go_ret
        exact nwl_no H.out _ _ hK
  have hl := (stB_facts hs).2
  have HO := Lib.hid (chL_yes hs)
  have HSV := Lib.hid (fun W (kW : Keep w W) => sv_spec a cap rs W (h.keep kW) (by omega))
  rw [hs] at HSV
  have HAt := Lib.hid (fun k (hk : k < rs.length) W (kW : Keep w W) => (h.keep kW).at_ hk)
  obtain ⟨n, hn⟩ : ∃ n, n = rs.length := ⟨_, rfl⟩
  rw [← hn] at HSV HAt HO hl hm ⊢
  clear hs h hn
  go_enter Tryd.func11, Tryd.ntmps11
  go_wp2_with fail
  go_loopw [3, 4, 5] (fun o u i wr => ∃ (k m g c : Nat), k ≤ n ∧ m < 9973 ∧ i = .int .i64 k ∧ u = .int .i64 (m : Int) ∧ o = .slice (some ⟨g, 0, none⟩) k c ∧ Hid (m = chN rs k) ∧ Hid (wr.ownsRow w.heap.size 3 1 (.slice (some ⟨g, 0, none⟩) k c) k ((chP rs k).map (Value.int .i64))) ∧ Keep w wr) (fun _ _ i _ => n - (intOf i).toNat)
  case atStart => exact ⟨0, 1, w.heap.size, 0, by omega, by omega, rfl, rfl, rfl, Lib.hid rfl, Lib.hid (World.ownsRow_made w #[] 0 (Nat.le_refl _) (by unfold maxLen; omega) rfl), (Keep.refl w).alloc _⟩
  case round =>
    obtain ⟨k, m, g, c, hk, hm9, rfl, rfl, rfl, HN, HW, hK⟩ := hrel
    by_cases hlt : k < n
    · go_wp2_with fail
      refine (HSV.out wr hK).mono ?_
      rintro e w1 ⟨rfl, k1⟩
      have kw := hK.trans k1
      obtain ⟨bb, off, rfl, hb, hcc⟩ := HAt.out k hlt w1 kw
      obtain ⟨c0, c1, c2, c3⟩ := hcc
      have HNx : Hid (chN rs (k + 1) = chF m (txR (rs.getD k r0)).data.toList) := Lib.hid (by rw [chN, ← HN.out])
      have hsz := txR_size (rs.getD k r0)
      have hnl := chN_lt rs (k + 1)
      have HTX : Hid (txR (rs.getD k r0) = tx (rS (rs.getD k r0)) (rD (rs.getD k r0)) (rK (rs.getD k r0)) (rV (rs.getD k r0))) := Lib.hid rfl
      have HSuc := Lib.hid (chP_succ rs k)
      generalize txR (rs.getD k r0) = t at *
      generalize rS (rs.getD k r0) = x0 at c0 HTX
      generalize rD (rs.getD k r0) = x1 at c1 HTX
      generalize rK (rs.getD k r0) = x2 at c2 HTX
      generalize rV (rs.getD k r0) = x3 at c3 HTX
      have HTt := Lib.hid (fun W => text_spec x0 x1 x2 x3 W)
      rw [← HTX.out] at HTt
      obtain ⟨m2, hm2⟩ : ∃ m2, chN rs (k + 1) = m2 := ⟨_, rfl⟩
      have HM2 := Lib.hid hm2
      rw [hm2] at HNx hnl HSuc
      clear HTX hm2
      have HW1 := Lib.hid (HW.out.kept (⟨Below.os k1, Below.tape k1, Below.output k1, Below.size k1, fun i hi _ => Below.block k1 i hi⟩ : wr.grownBy w1 none) (by right; simp [Value.ownBlock]))
      clear HW
      go_wp2_with fail
      refine (HTt.out _).mono ?_
      rintro e w2 ⟨rfl, k2⟩
      have HW2 := Lib.hid (HW1.out.kept (⟨Below.os k2, Below.tape k2, Below.output k2, Below.size k2, fun i hi _ => Below.block k2 i hi⟩ : w1.grownBy w2 none) (by right; simp [Value.ownBlock]))
      have K2 := kw.trans k2
      have hz2' := K2.size
      clear HW1 c0 c1 c2 c3
      go_wp2_with fail
      go_loop [4, 7] (fun u i => ∃ (j q : Nat), j ≤ t.size ∧ q < 9973 ∧ i = .int .i64 j ∧ u = .int .i64 (q : Int) ∧ Hid (q = chF m (t.data.toList.take j))) (fun _ i => t.size - (intOf i).toNat)
      case atStart => exact ⟨0, m, by omega, hm9, rfl, rfl, Lib.hid (by simp [chF])⟩
      case round =>
        obtain ⟨j, q, hj, hq, rfl, rfl, HQ⟩ := hrel
        by_cases hjt : j < t.size
        · have HX := Lib.hid (ch_next m hjt)
          rw [← HQ.out] at HX
          have hb' := t[j].toNat_lt
          obtain ⟨q2, hq2⟩ : ∃ q2, (31 * q + t[j].toNat) % 9973 = q2 := ⟨_, rfl⟩
          have HM := Lib.hid hq2
          have hq97 : q2 < 9973 := by omega
          have hti : Int.tmod (31 * (q : Int) + (t[j].toNat : Int)) 9973 = (q2 : Int) := by
            rw [← hq2]
            have h9 := Int.ofNat_tmod (31 * q + t[j].toNat) 9973
            push_cast at h9
            omega
          clear hq2
          go_wp2
          go_round
          case rel => exact ⟨j + 1, q2, by omega, hq97, by go_num, by first | rfl | (congr 1), Lib.hid (by rw [HX.out, HM.out])⟩
          case measure => simp [intOf]; omega
        · obtain rfl : j = t.size := by omega
          obtain rfl : q = m2 := by rw [HQ.out, ch_all, HNx.out]
          have hown := HW2.out
          clear HQ HNx hsz
          go_wp2_with (at_builtin; refine wpList_append_own _ rfl _ _ 25 rfl w.heap.size 3 i0 (.int .i64 0) 1 8 Tryd.underlying25 hi0 hz0 hz1 hz2 rfl (by decide) _ _ _ rfl (hown.alloc _) ⟨w2.heap.size, 0, none⟩ 1 1 [.int .i64 (q : Int)] rfl rfl ?c1a ?c2a ?c3a ?c4a ?c5a ?_)
          try case c1a =>
            intro j u hj
            match j, hj with
            | 0, hj => simp at hj; subst hj; simp [Addr.add]
          case c2a => first | rfl | (intro u hu; simp at hu; subst hu; rfl)
          case c3a => unfold maxLen; omega
          case c4a => omega
          case c5a => first | omega | (simp; omega)
          intro v' w9 hown' hgrow hnil
          have HK2 : Hid (Keep w w9) := Lib.hid (Below.grown (K2.alloc (.cells #[.int .i64 (q : Int)] 3)) hgrow (K2.alloc (.cells #[.int .i64 (q : Int)] 3)).size (fun r hr => (hown.lt r hr).1))
          obtain ⟨g', c', rfl, hbg, hlg⟩ := hown'.form (by omega)
          have HN9 : Hid (w9.ownsRow w.heap.size 3 1 (.slice (some ⟨g', 0, none⟩) (k + 1) c') (k + 1) ((chP rs (k + 1)).map (Value.int .i64))) := Lib.hid (by rw [HSuc.out]; simpa using hown')
          clear hown' hgrow hnil hown
          go_wp2
          go_roundw
          case rel => exact ⟨k + 1, q, g', c', by omega, hnl, by go_num, rfl, rfl, Lib.hid HM2.out.symm, HN9, HK2.out⟩
          case measure => simp [intOf]; omega
    · obtain rfl : k = n := by omega
      have HF : Hid (OwI wr w.heap.size (.slice (some ⟨g, 0, none⟩) k c) (chL rs)) := Lib.hid (by
        have h1 := HW.out
        unfold OwI
        rw [HO.out, chP_len]; exact h1)
      go_wp2
      go_ret
      exact nwl_own HF.out (Nat.le_refl _) hK
end Go.Proofs.YtaggciojccoidaaDoor
