/- ChainCheck: the program (by errors.As) and the model answer 'ckV'. -/
import Derived.Test.YtaggciojccoidaaDoorCi
import Derived.Test.YtaggciojccoidaaDoorAe
import Derived.Deep.QuietTactic
import Derived.BigQuiet
namespace Go.Proofs.YtaggciojccoidaaDoor
open Go.RowKit
set_option linter.unusedVariables false

/-- What the laws that come to errors.As lean on: the table of powers of ten, and the handle of 'error'. -/
def TabsH (w : World) : Prop := Tabs w ∧ w.cell? ⟨0, 0, none⟩ = some (.iface 90 (.agg #[.pointer (some ⟨4, 59, none⟩)]))
theorem TabsH.keep {w w' : World} (h : TabsH w) (k : Keep w w') : TabsH w' := ⟨h.1.keep k, k.cell h.2⟩
theorem ls_lenC {w : World} {a : Option Addr} {zs : List Int} (h : Ls w a zs) {k : Nat} (hk : k < zs.length) : ∃ b off, a = some ⟨b, off, none⟩ ∧ w.cell? ⟨b, off + k, none⟩ = some (.int .i64 (zs.getD k 0)) := by
  obtain ⟨b, off, h1, _, h2⟩ := h.at_ hk
  exact ⟨b, off, h1, h2⟩
set_option maxRecDepth 100000 in
set_option maxHeartbeats 4000000 in
theorem chk_any (a : Option Addr) (cap : Nat) (rs : List R4) (b0 : Option Addr) (cb : Nat) (ys : List Int) (w : World) (h : Rs w a rs) (hm : rs.length ≤ 1048576) (h2 : Ls w b0 ys) (hm2 : ys.length ≤ 1048576) (T : Tabs w) (hs : stB rs = true) :
    Calls Tryd.prog 37 #[.agg #[.slice a rs.length cap], .slice b0 ys.length cb] w fun e w' => ((∃ k : Nat, e = .returned (.iface 56 (.agg #[.int .i64 (k : Int)])) ∧ ckV rs ys = (k : Int)) ∨ (e = .returned .nilIface ∧ ckV rs ys = (rs.length : Int))) ∧ Keep w w' := by
  have HCH := Lib.hid (ch_impl a cap rs (w.alloc (.cells #[.slice a rs.length cap] 61)) (h.keep ((Keep.refl w).alloc _)) hm (T.keep ((Keep.refl w).alloc _)))
  have hLn : (chL rs).length = rs.length := by rw [chL_yes hs, chP_len]
  have HST := Lib.hid (fun (k : Nat) (hk : k ≤ rs.length) ha hst => ck_stop (sums := ys) hs (k := k) hk ha hst)
  rw [← chL_yes hs] at HST
  obtain ⟨n, hn⟩ : ∃ n, n = rs.length := ⟨_, rfl⟩
  have HLn : Hid ((chL rs).length = n) := Lib.hid (by rw [hn]; exact hLn)
  rw [← hn] at HCH HST ⊢
  rw [← hn] at hm
  have hL1 : (chL rs).length ≤ 40 := chL_len
  clear T hs hLn hn h
  generalize chL rs = L at *
  go_enter Tryd.func37, Tryd.ntmps37
  go_wp2_with fail
  refine HCH.out.mono ?_
  rintro e w1 ⟨p, q, rfl, hq, hF, k1⟩
  have K1 : Keep w w1 := ((Keep.refl w).alloc _).trans k1
  have HX := Lib.hid hF.ls
  have HY := Lib.hid (h2.keep K1)
  have hnL : L.length ≤ n := Nat.le_of_eq HLn.out
  have hLn : n ≤ L.length := Nat.le_of_eq HLn.out.symm
  clear hF HCH k1 h2 hq
  go_wp2_with fail
  go_loopw [11] (fun i wr => ∃ k : Nat, k ≤ L.length ∧ i = .int .i64 (k : Int) ∧ Hid (∀ j, j < k → j < ys.length ∧ ys.getD j 0 = L.getD j 0) ∧ Keep w1 wr) (fun i _ => L.length - (intOf i).toNat)
  case atStart => exact ⟨0, by omega, rfl, Lib.hid (fun j hj => absurd hj (by omega)), Keep.refl _⟩
  case round =>
    obtain ⟨k, hk, rfl, HA, hK⟩ := hrel
    by_cases hlt : k < L.length
    case' neg =>
      obtain rfl : k = L.length := by omega
      have HF : Hid (ckV rs ys = (n : Int)) := Lib.hid (HST.out n (Nat.le_refl _) (fun j hj => HA.out j (by omega)) (.inl rfl))
      go_wp2
      go_ret
      exact ⟨.inr ⟨rfl, HF.out⟩, K1.trans hK⟩
    obtain ⟨bx, ox, rfl, cx⟩ := ls_lenC (HX.out.keep hK) hlt
    by_cases hys : k < ys.length
    · obtain ⟨by', oy, rfl, cy⟩ := ls_lenC (HY.out.keep hK) hys
      by_cases he : ys.getD k 0 = L.getD k 0
      · have HA2 : Hid (∀ j, j < k + 1 → j < ys.length ∧ ys.getD j 0 = L.getD j 0) := Lib.hid (fun j hj => by
          by_cases e : j < k
          · exact HA.out j e
          · obtain rfl : j = k := by omega
            exact ⟨hys, he⟩)
        rw [he] at cy
        clear he HA
        generalize L.getD k 0 = x at cx cy
        have hd1 : ¬ (ys.length : Int) ≤ (k : Int) := by omega
        have hd2 : (x != x) = false := by simp
        go_wp2
        go_roundw
        case rel => exact ⟨k + 1, by omega, by go_num, HA2, hK⟩
        case measure => simp [intOf]; omega
      · have HF : Hid (ckV rs ys = (k : Int)) := Lib.hid (HST.out k (by omega) HA.out (.inr (.inr he)))
        have hd1 : ¬ (ys.length : Int) ≤ (k : Int) := by omega
        have hd2 : (ys.getD k 0 != L.getD k 0) = true := bne_iff_ne.2 he
        clear he HA
        generalize L.getD k 0 = x at cx hd2
        generalize ys.getD k 0 = y at cy hd2
        go_wp2
        go_ret
        exact ⟨.inl ⟨k, rfl, HF.out⟩, K1.trans hK⟩
    · have HF : Hid (ckV rs ys = (k : Int)) := Lib.hid (HST.out k (by omega) HA.out (.inr (.inl (by omega))))
      have hd1 : (ys.length : Int) ≤ (k : Int) := by omega
      clear HA
      generalize L.getD k 0 = x at cx
      go_wp2
      go_ret
      exact ⟨.inl ⟨k, rfl, HF.out⟩, K1.trans hK⟩
set_option maxRecDepth 100000 in
set_option maxHeartbeats 4000000 in
theorem ck_impl (a : Option Addr) (cap : Nat) (rs : List R4) (b0 : Option Addr) (cb : Nat) (ys : List Int) (w : World) (h : Rs w a rs) (hm : rs.length ≤ 1048576) (h2 : Ls w b0 ys) (hm2 : ys.length ≤ 1048576) (T : TabsH w) :
    Calls Tryd.prog 16 #[.slice a rs.length cap, .slice b0 ys.length cb] w fun e w' => e = .returned (.int .i64 (ckV rs ys)) ∧ Keep w w' := by
  have HT := Lib.hid T
  clear T
  rcases Bool.eq_false_or_eq_true (stB rs) with hs | hs
  case' inr =>
    have H : Hid (ckV rs ys = -1) := Lib.hid (ckV_no hs)
    go_enter Tryd.func16, Tryd.ntmps16
    go_wp2_with (go_at_call 29; refine (sv_impl a cap rs _ h (by omega)).mono ?_; rintro e w1 ⟨he, k1⟩; rw [hs] at he; subst he)
    go_ret
    exact ⟨retI H.out.symm, k1⟩
  have HSV := Lib.hid (sv_impl a cap rs w h (by omega))
  rw [hs] at HSV
  have HCK := Lib.hid (fun W (k : Keep w W) => chk_any a cap rs b0 cb ys W (h.keep k) hm (h2.keep k) hm2 (HT.out.keep k).1 hs)
  clear h h2 hs
  go_enter Tryd.func16, Tryd.ntmps16
  go_wp2_with fail
  refine HSV.out.mono ?_
  rintro e w1 ⟨rfl, k1⟩
  go_wp2_with fail
  refine (HCK.out _ (k1.alloc _)).mono ?_
  rintro e w2 ⟨hor, k2⟩
  have d0 := Keep.new k2 0 (v := .int .i64 0) rfl
  have f0 := Keep.fresh k2 0
  have hg2 := (((HT.out.keep k1).keep ((Keep.refl w1).alloc _)).keep k2).2
  have K2 : Keep w w2 := (k1.alloc _).trans k2
  have hb1 : w1.heap.size < w2.heap.size := World.block_lt_of_cell? w2 _ d0
  have hsz := k1.size
  rcases hor with ⟨k, rfl, hv⟩ | ⟨rfl, hv⟩
  · have HV := Lib.hid hv
    have HHit := Lib.hid (as_hit (k : Int) w1.heap.size (.int .i64 0) w2 hg2 d0 f0)
    clear hv d0 f0 hg2
    go_wp2_with fail
    refine HHit.out.mono ?_
    rintro e w3 ⟨rfl, hw3⟩
    have KF : Keep w w3 := by
      rw [hw3]
      exact (((((K2.alloc _).alloc _).alloc _).alloc _)).setCell hsz _
    have hc3 : w3.cell? ⟨w1.heap.size, 0, none⟩ = some (.int .i64 (k : Int)) := by
      have hold : (((w2.alloc (.cells #[.pointer (some ⟨w1.heap.size, 0, none⟩)] 63)).alloc (.cells #[.pointer (some ⟨4, 63, none⟩), .pointer (some ⟨w2.heap.size, 0, none⟩), .int .u64 150] 77)).alloc (.cells #[.pointer (some ⟨4, 63, none⟩), .pointer (some ⟨w2.heap.size, 0, none⟩), .int .u64 150] 77)).heap.size = w2.heap.size + 1 + 1 + 1 := by simp
      have hx := k2.cell (World.cell?_alloc_new w1 (#[.int .i64 0]) 56 0)
      rw [hw3]
      exact World.cell?_setCell_same _ _ _ ((((((Keep.refl w2).alloc _).alloc _).alloc _).alloc _).cell hx)
    clear hw3 HHit
    go_wp2
    go_ret
    exact ⟨retI HV.out.symm, KF⟩
  · have HV := Lib.hid hv
    clear hv d0 f0 hg2
    go_wp2_with fail
    refine (as_nil _ _).mono ?_
    rintro e w3 ⟨rfl, rfl⟩
    go_wp2
    go_ret
    exact ⟨retI HV.out.symm, K2⟩
set_option maxRecDepth 100000 in
set_option maxHeartbeats 4000000 in
theorem ck_spec (a : Option Addr) (cap : Nat) (rs : List R4) (b0 : Option Addr) (cb : Nat) (ys : List Int) (w : World) (h : Rs w a rs) (hm : rs.length ≤ 1048576) (h2 : Ls w b0 ys) (hm2 : ys.length ≤ 1048576) :
    Calls Tryd.prog 17 #[.slice a rs.length cap, .slice b0 ys.length cb] w fun e w' => e = .returned (.int .i64 (ckV rs ys)) ∧ Keep w w' := by
  rcases Bool.eq_false_or_eq_true (stB rs) with hs | hs
  case' inr =>
    have H : Hid (ckV rs ys = -1) := Lib.hid (ckV_no hs)
    go_enter Tryd.func17, Tryd.ntmps17
    go_wp2_with (go_at_call 13; refine (sv_spec a cap rs _ h (by omega)).mono ?_; rintro e w1 ⟨he, k1⟩; rw [hs] at he; subst he)
    go_ret
    exact ⟨retI H.out.symm, k1⟩
  have HSV := Lib.hid (sv_spec a cap rs w h (by omega))
  rw [hs] at HSV
  have HCH := Lib.hid (fun W (k : Keep w W) => ch_spec a cap rs W (h.keep k) hm)
  have hLn : (chL rs).length = rs.length := by rw [chL_yes hs, chP_len]
  have HST := Lib.hid (fun (k : Nat) (hk : k ≤ rs.length) ha hst => ck_stop (sums := ys) hs (k := k) hk ha hst)
  rw [← chL_yes hs] at HST
  obtain ⟨n, hn⟩ : ∃ n, n = rs.length := ⟨_, rfl⟩
  have HLn : Hid ((chL rs).length = n) := Lib.hid (by rw [hn]; exact hLn)
  rw [← hn] at HCH HST HSV ⊢
  rw [← hn] at hm
  have hL1 : (chL rs).length ≤ 40 := chL_len
  clear hs hLn hn h
  generalize chL rs = L at *
  go_enter Tryd.func17, Tryd.ntmps17
  go_wp2_with fail
  refine HSV.out.mono ?_
  rintro e w0 ⟨rfl, k0⟩
  go_wp2_with fail
  refine (HCH.out _ k0).mono ?_
  rintro e w1 ⟨p, q, rfl, hq, hF, k1⟩
  have K1 : Keep w w1 := k0.trans k1
  have HX := Lib.hid hF.ls
  have HY := Lib.hid (h2.keep K1)
  have hnL : L.length ≤ n := Nat.le_of_eq HLn.out
  have hLn : n ≤ L.length := Nat.le_of_eq HLn.out.symm
  clear hF HCH k0 k1 h2 hq HSV
  go_wp2_with fail
  go_loopw [6] (fun i wr => ∃ k : Nat, k ≤ L.length ∧ i = .int .i64 (k : Int) ∧ Hid (∀ j, j < k → j < ys.length ∧ ys.getD j 0 = L.getD j 0) ∧ Keep w1 wr) (fun i _ => L.length - (intOf i).toNat)
  case atStart => exact ⟨0, by omega, rfl, Lib.hid (fun j hj => absurd hj (by omega)), Keep.refl _⟩
  case round =>
    obtain ⟨k, hk, rfl, HA, hK⟩ := hrel
    by_cases hlt : k < L.length
    case' neg =>
      obtain rfl : k = L.length := by omega
      have HF : Hid ((n : Int) = ckV rs ys) := Lib.hid (HST.out n (Nat.le_refl _) (fun j hj => HA.out j (by omega)) (.inl rfl)).symm
      go_wp2
      go_ret
      exact ⟨retI HF.out, K1.trans hK⟩
    obtain ⟨bx, ox, rfl, cx⟩ := ls_lenC (HX.out.keep hK) hlt
    have u0 : (0 : Int) ≤ (k : Int) := by omega
    have u1 : (k : Int) < (L.length : Int) := by omega
    by_cases hys : k < ys.length
    · obtain ⟨by', oy, rfl, cy⟩ := ls_lenC (HY.out.keep hK) hys
      have u2 : (k : Int) < (ys.length : Int) := by omega
      have hd1 : ¬ (ys.length : Int) ≤ (k : Int) := by omega
      have hd3 : decide ((ys.length : Int) ≤ (k : Int)) = false := decide_eq_false hd1
      by_cases he : ys.getD k 0 = L.getD k 0
      · have HA2 : Hid (∀ j, j < k + 1 → j < ys.length ∧ ys.getD j 0 = L.getD j 0) := Lib.hid (fun j hj => by
          by_cases e : j < k
          · exact HA.out j e
          · obtain rfl : j = k := by omega
            exact ⟨hys, he⟩)
        rw [he] at cy
        clear he HA
        generalize L.getD k 0 = x at cx cy
        have hd2 : (x != x) = false := by simp
        go_wp2_with fail
        go_quiet (fail)
        go_wp2
        go_roundw
        case rel => exact ⟨k + 1, by omega, by go_num, HA2, hK.drewN _⟩
        case measure => simp [intOf]; omega
      · have HF : Hid ((k : Int) = ckV rs ys) := Lib.hid (HST.out k (by omega) HA.out (.inr (.inr he))).symm
        have hd2 : (ys.getD k 0 != L.getD k 0) = true := bne_iff_ne.2 he
        clear he HA
        generalize L.getD k 0 = x at cx hd2
        generalize ys.getD k 0 = y at cy hd2
        go_wp2_with fail
        go_quiet (fail)
        go_wp2
        go_ret
        exact ⟨retI HF.out, (K1.trans hK).drewN _⟩
    · have HF : Hid ((k : Int) = ckV rs ys) := Lib.hid (HST.out k (by omega) HA.out (.inr (.inl (by omega)))).symm
      have hd1 : (ys.length : Int) ≤ (k : Int) := by omega
      have hd3 : decide ((ys.length : Int) ≤ (k : Int)) = true := decide_eq_true hd1
      clear HA
      generalize L.getD k 0 = x at cx
      go_wp2_with fail
      go_quiet (fail)
      go_wp2
      go_ret
      exact ⟨retI HF.out, (K1.trans hK).drewN _⟩
end Go.Proofs.YtaggciojccoidaaDoor
