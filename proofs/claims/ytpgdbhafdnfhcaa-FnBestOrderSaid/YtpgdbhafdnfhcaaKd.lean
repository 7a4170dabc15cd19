/- The cost of cuts: the model's and the program's functions. -/
import Derived.Test.YtpgdbhafdnfhcaaKc
namespace Go.Proofs.Ytpgdbhafdnfhcaa
open Go.RowKit
set_option linter.unusedVariables false

theorem cc_no1 {zs cs : List Int} {price : Int} (h : shB zs = false) : ccV zs cs price = -1 := ccV_no (by rw [ccB, h]; rfl)
theorem cc_no2 {zs cs : List Int} {price : Int} (h : ctB cs zs.length = false) : ccV zs cs price = -1 := ccV_no (by rw [ccB, h]; simp)
theorem cc_no3 {zs cs : List Int} {price : Int} (h : inB price 0 9999 = false) : ccV zs cs price = -1 := ccV_no (by rw [ccB, h]; simp)
theorem cc_yes {zs cs : List Int} {price : Int} (h : shB zs = true) (h2 : ctB cs zs.length = true) (h3 : inB price 0 9999 = true) : ccB zs cs price = true := by rw [ccB, h, h2, h3]; rfl
set_option maxRecDepth 100000 in
set_option maxHeartbeats 2000000 in
theorem cc_spec (a b0 : Option Addr) (ca cb : Nat) (zs cs : List Int) (price : Int) (w : World) (h : Ls w a zs) (h2 : Ls w b0 cs) (hca : zs.length ≤ ca) (hm : zs.length ≤ 1048576) (hm2 : cs.length ≤ 1048576) :
    Calls Try.prog 29 #[.slice a zs.length ca, .slice b0 cs.length cb, .int .i64 price] w fun e w' => e = .returned (.int .i64 (ccV zs cs price)) ∧ Keep w w' := by
  have HQ := Lib.hid (shv_spec a ca zs w h hm)
  rcases Bool.eq_false_or_eq_true (shB zs) with q1 | q1
  case' inr =>
    have HF := Lib.hid (cc_no1 (cs := cs) (price := price) q1)
    rw [q1] at HQ
    clear q1
    go_enter Try.func29, Try.ntmps29
    go_wp2_with fail
    refine HQ.out.mono ?_
    rintro e w1 ⟨rfl, rfl⟩
    go_wp2
    go_ret
    exact ⟨retI HF.out.symm, Keep.refl _⟩
  have HC := Lib.hid (cv_spec b0 cb cs zs.length w h2 (by omega))
  rcases Bool.eq_false_or_eq_true (ctB cs zs.length) with q2 | q2
  case' inr =>
    have HF := Lib.hid (cc_no2 (price := price) q2)
    rw [q1] at HQ
    rw [q2] at HC
    clear q1 q2
    go_enter Try.func29, Try.ntmps29
    go_wp2_with fail
    refine HQ.out.mono ?_
    rintro e w1 ⟨rfl, rfl⟩
    go_wp2_with fail
    refine HC.out.mono ?_
    rintro e w1 ⟨rfl, k1⟩
    go_wp2
    go_ret
    exact ⟨retI HF.out.symm, k1⟩
  have HI := Lib.hid (fun W => l6In_any price 0 9999 W)
  rcases Bool.eq_false_or_eq_true (inB price 0 9999) with q3 | q3
  case' inr =>
    have HF := Lib.hid (cc_no3 (zs := zs) (cs := cs) q3)
    rw [q1] at HQ
    rw [q2] at HC
    rw [q3] at HI
    clear q1 q2 q3
    go_enter Try.func29, Try.ntmps29
    go_wp2_with fail
    refine HQ.out.mono ?_
    rintro e w1 ⟨rfl, rfl⟩
    go_wp2_with fail
    refine HC.out.mono ?_
    rintro e w1 ⟨rfl, k1⟩
    go_wp2_with fail
    refine (HI.out _).mono ?_
    rintro e w2 ⟨rfl, rfl⟩
    go_wp2
    go_ret
    exact ⟨retI HF.out.symm, k1⟩
  have HG := Lib.hid (fun W (k : Keep w W) => lc_spec a b0 ca cb zs cs price W (h.keep k) (h2.keep k) hca (cc_yes q1 q2 q3))
  rw [q1] at HQ
  rw [q2] at HC
  rw [q3] at HI
  clear q1 q2 q3
  go_enter Try.func29, Try.ntmps29
  go_wp2_with fail
  refine HQ.out.mono ?_
  rintro e w1 ⟨rfl, rfl⟩
  go_wp2_with fail
  refine HC.out.mono ?_
  rintro e w1 ⟨rfl, k1⟩
  go_wp2_with fail
  refine (HI.out _).mono ?_
  rintro e w2 ⟨rfl, rfl⟩
  go_wp2_with fail
  refine (HG.out _ k1).mono ?_
  rintro e w3 ⟨rfl, k3⟩
  go_wp2
  go_ret
  exact ⟨rfl, k1.trans k3⟩
theorem pv_any (x : Int) (w : World) :
    Calls Try.prog 72 #[.int .i64 x] w fun e w' => e = .returned (.bool (inB x 0 9999)) ∧ w = w' := by
  go_enter Try.func72, Try.ntmps72
  go_wp2
  all_goals
    go_ret
    refine ⟨retB ?_, rfl⟩
    rw [Bool.eq_iff_iff]; simp [inB]; try omega
theorem infoSlC : (Try.prog.info? 43).map (fun i => (i.zero, i.size, i.bytes)) = some (some (.slice none 0 0), 1, 24) := by kernel_rfl
/-- The parts that cuts make, as the program keeps them. -/
def ptV (b off ca : Nat) (zs cs : List Int) (j : Nat) : Value :=
  if j < cs.length then .slice (some ⟨b, off + (ctP cs j).toNat, none⟩) ((cs.getD j 0).toNat - (ctP cs j).toNat) (ca - (ctP cs j).toNat)
  else .slice (some ⟨b, off + (ctP cs j).toNat, none⟩) (zs.length - (ctP cs j).toNat) (ca - (ctP cs j).toNat)
def ptL (b off ca : Nat) (zs cs : List Int) (k : Nat) : List Value := (List.range k).map (ptV b off ca zs cs)
theorem ptL_succ (b off ca : Nat) (zs cs : List Int) (k : Nat) : ptL b off ca zs cs (k + 1) = ptL b off ca zs cs k ++ [ptV b off ca zs cs k] := by
  simp [ptL, List.range_succ]
theorem ptL_len (b off ca : Nat) (zs cs : List Int) (k : Nat) : (ptL b off ca zs cs k).length = k := by simp [ptL]
theorem ptL_at (b off ca : Nat) (zs cs : List Int) {k j : Nat} (h : j < k) : (ptL b off ca zs cs k)[j]? = some (ptV b off ca zs cs j) := by simp [ptL, h]
theorem ptV_in {b off ca : Nat} {zs cs : List Int} {j p q : Nat} (hj : j < cs.length) (hp : ctP cs j = p) (hq : cs.getD j 0 = q) : ptV b off ca zs cs j = .slice (some ⟨b, off + p, none⟩) (q - p) (ca - p) := by
  rw [ptV, if_pos hj, hp, hq]; rfl
theorem ptV_last {b off ca : Nat} {zs cs : List Int} {p : Nat} (hp : ctP cs cs.length = p) : ptV b off ca zs cs cs.length = .slice (some ⟨b, off + p, none⟩) (zs.length - p) (ca - p) := by
  rw [ptV, if_neg (Nat.lt_irrefl _), hp]; rfl
set_option maxRecDepth 100000 in
set_option maxHeartbeats 4000000 in
theorem cut_impl (b off : Nat) (b0 : Option Addr) (ca cb : Nat) (zs cs : List Int) (price : Int) (w : World) (h : Ls w (some ⟨b, off, none⟩) zs) (h2 : Ls w b0 cs) (hca : zs.length ≤ ca) (hs : ccB zs cs price = true) :
    Calls Try.prog 73 #[.slice (some ⟨b, off, none⟩) zs.length ca, .slice b0 cs.length cb] w fun e w' => ∃ g c, e = .returned (.slice (some ⟨g, 0, none⟩) (cs.length + 1) c) ∧ w.heap.size ≤ g ∧ w'.ownsRow w.heap.size 43 1 (.slice (some ⟨g, 0, none⟩) (cs.length + 1) c) (cs.length + 1) (ptL b off ca zs cs (cs.length + 1)) ∧ Keep w w' := by
  obtain ⟨l1, l8, hlc, pr0, pr1⟩ := cc_len hs
  have HS := Lib.hid hs
  clear hs
  obtain ⟨i0, hi0, hz0, hz1, hz2⟩ := info_parts infoSlC
  go_enter Try.func73, Try.ntmps73
  go_wp2_with fail
  go_loopw [5, 6, 11] (fun v f i wr => ∃ k : Nat, k ≤ cs.length ∧ i = .int .i64 k ∧ f = .int .i64 (ctP cs k) ∧ Hid (wr.ownsRow w.heap.size 43 1 v k (ptL b off ca zs cs k)) ∧ Keep w wr) (fun _ _ i _ => cs.length - (intOf i).toNat)
  case atStart => exact ⟨0, by omega, rfl, rfl, Lib.hid (World.ownsRow_nil _ _ _ _), Keep.refl w⟩
  case round =>
    obtain ⟨k, hk, rfl, rfl, HO, hK⟩ := hrel
    have hsz := hK.size
    by_cases hlt : k < cs.length
    · obtain ⟨bz, oz, rfl, hbz, cz⟩ := (h2.keep hK).at_ hlt
      obtain ⟨p, q, v, e1, e2, e3, hpq, hql, e4, hF, v0, v1⟩ := cc_step HS.out hlt
      have HX := Lib.hid (ptV_in (b := b) (off := off) (ca := ca) (zs := zs) hlt e1 e2)
      have H3 := Lib.hid e3
      rw [e2] at cz
      rw [e1]
      clear hF e1 e2 e3 e4
      have k0 : (0 : Int) ≤ (k : Int) := by omega
      have kz : (k : Int) < (cs.length : Int) := by omega
      have q1 : (0 : Int) ≤ (p : Int) := by omega
      have q2 : (p : Int) ≤ (q : Int) := by omega
      have q3 : (q : Int) ≤ (ca : Int) := by omega
      have qc : ¬ ca = p := by omega
      have hown := HO.out
      go_wp2_with (at_builtin; refine wpList_append_own _ rfl _ _ 99 rfl w.heap.size 43 i0 (.slice none 0 0) 1 24 Try.underlying99 hi0 hz0 hz1 hz2 rfl (by decide) _ _ _ rfl (hown.alloc _) ⟨wr.heap.size, 0, none⟩ 1 1 [.slice (some ⟨b, off + p, none⟩) (q - p) (ca - p)] rfl rfl ?c1a ?c2a ?c3a ?c4a ?c5a ?_)
      try case c1a =>
        intro j u hj
        match j, hj with
        | 0, hj => simp at hj; subst hj; simp [Addr.add]
      try case c2a => first | rfl | (intro u hu; simp at hu; subst hu; rfl)
      case c3a => unfold maxLen; omega
      case c4a => omega
      case c5a => first | omega | (simp; omega)
      intro v' w9 hown' hgrow hnil
      have HN : Hid (w9.ownsRow w.heap.size 43 1 v' (k + 1) (ptL b off ca zs cs (k + 1))) := Lib.hid (by rw [ptL_succ, HX.out]; exact hown')
      have HK2 : Keep w w9 := Below.grown (hK.alloc _) hgrow (hK.alloc _).size (fun g hg => (hown.lt g hg).1)
      clear hown' hgrow hnil hown
      go_wp2
      go_roundw
      case rel => exact ⟨k + 1, by omega, by go_num, by rw [H3.out], HN, HK2⟩
      case measure => simp [intOf]; omega
    · obtain rfl : k = cs.length := by omega
      obtain ⟨p, v, e1, hpl, e4, hF, v0, v1⟩ := cc_last HS.out
      have HX := Lib.hid (ptV_last (b := b) (off := off) (ca := ca) (zs := zs) e1)
      rw [e1]
      clear hF e1 e4
      have q1 : (0 : Int) ≤ (p : Int) := by omega
      have q2 : (p : Int) ≤ (zs.length : Int) := by omega
      have q3 : (zs.length : Int) ≤ (ca : Int) := by omega
      have qc : ¬ ca = p := by omega
      have hown := HO.out
      go_wp2_with (at_builtin; refine wpList_append_own _ rfl _ _ 99 rfl w.heap.size 43 i0 (.slice none 0 0) 1 24 Try.underlying99 hi0 hz0 hz1 hz2 rfl (by decide) _ _ _ rfl (hown.alloc _) ⟨wr.heap.size, 0, none⟩ 1 1 [.slice (some ⟨b, off + p, none⟩) (zs.length - p) (ca - p)] rfl rfl ?c1a ?c2a ?c3a ?c4a ?c5a ?_)
      try case c1a =>
        intro j u hj
        match j, hj with
        | 0, hj => simp at hj; subst hj; simp [Addr.add]
      try case c2a => first | rfl | (intro u hu; simp at hu; subst hu; rfl)
      case c3a => unfold maxLen; omega
      case c4a => omega
      case c5a => first | omega | (simp; omega)
      intro v' w9 hown' hgrow hnil
      have hN : w9.ownsRow w.heap.size 43 1 v' (cs.length + 1) (ptL b off ca zs cs (cs.length + 1)) := by rw [ptL_succ, HX.out]; exact hown'
      have HK2 : Keep w w9 := Below.grown (hK.alloc _) hgrow (hK.alloc _).size (fun g hg => (hown.lt g hg).1)
      obtain ⟨g, c, rfl, hbg, _⟩ := hN.form (by omega)
      have HN := Lib.hid hN
      clear hown' hgrow hnil hown hN
      go_wp2
      go_ret
      exact ⟨g, c, rfl, hbg, HN.out, HK2⟩
set_option maxRecDepth 100000 in
set_option maxHeartbeats 4000000 in
theorem cc_impl (a b0 : Option Addr) (ca cb : Nat) (zs cs : List Int) (price : Int) (w : World) (h : Ls w a zs) (h2 : Ls w b0 cs) (hca : zs.length ≤ ca) (hm : zs.length ≤ 1048576) (hm2 : cs.length ≤ 1048576) :
    Calls Try.prog 28 #[.slice a zs.length ca, .slice b0 cs.length cb, .int .i64 price] w fun e w' => e = .returned (.int .i64 (ccV zs cs price)) ∧ Keep w w' := by
  have HQ := Lib.hid (shv_impl a ca zs w h hm)
  rcases Bool.eq_false_or_eq_true (shB zs) with q1 | q1
  case' inr =>
    have HF := Lib.hid (cc_no1 (cs := cs) (price := price) q1)
    rw [q1] at HQ
    clear q1
    go_enter Try.func28, Try.ntmps28
    go_wp2_with fail
    refine HQ.out.mono ?_
    rintro e w1 ⟨rfl, rfl⟩
    go_wp2
    go_ret
    exact ⟨retI HF.out.symm, Keep.refl _⟩
  have HC := Lib.hid (cv_impl b0 cb cs zs.length w h2 (by omega))
  rcases Bool.eq_false_or_eq_true (ctB cs zs.length) with q2 | q2
  case' inr =>
    have HF := Lib.hid (cc_no2 (price := price) q2)
    rw [q1] at HQ
    rw [q2] at HC
    clear q1 q2
    go_enter Try.func28, Try.ntmps28
    go_wp2_with fail
    refine HQ.out.mono ?_
    rintro e w1 ⟨rfl, rfl⟩
    go_wp2_with fail
    refine HC.out.mono ?_
    rintro e w1 ⟨rfl, rfl⟩
    go_wp2
    go_ret
    exact ⟨retI HF.out.symm, Keep.refl _⟩
  have HI := Lib.hid (fun W => pv_any price W)
  rcases Bool.eq_false_or_eq_true (inB price 0 9999) with q3 | q3
  case' inr =>
    have HF := Lib.hid (cc_no3 (zs := zs) (cs := cs) q3)
    rw [q1] at HQ
    rw [q2] at HC
    rw [q3] at HI
    clear q1 q2 q3
    go_enter Try.func28, Try.ntmps28
    go_wp2_with fail
    refine HQ.out.mono ?_
    rintro e w1 ⟨rfl, rfl⟩
    go_wp2_with fail
    refine HC.out.mono ?_
    rintro e w1 ⟨rfl, rfl⟩
    go_wp2_with fail
    refine (HI.out _).mono ?_
    rintro e w2 ⟨rfl, rfl⟩
    go_wp2
    go_ret
    exact ⟨retI HF.out.symm, Keep.refl _⟩
  have hs := cc_yes q1 q2 q3
  obtain ⟨l1, l8, hlc, pr0, pr1⟩ := cc_len hs
  obtain ⟨b, off, rfl, hb, _⟩ := h.at_ (show 0 < zs.length by omega)
  have HG := Lib.hid (cut_impl b off b0 ca cb zs cs price w h h2 hca hs)
  have HP : Hid (∀ p q v, PtF zs p q v → ∀ c W, Keep w W → Calls Try.prog 74 #[.slice (some ⟨b, off + p, none⟩) (q - p) c] W fun e w' => e = .returned (.int .i64 v) ∧ Keep W w') := Lib.hid (fun p q v hp c W k => by
    obtain ⟨e1, e2, e3⟩ := hp
    have := pc_impl (some ⟨b, off + p, none⟩) c (seg zs p q) W (ls_seg (h.keep k) p q) (by rw [e2]; have := (shB_facts e1).2.1; rw [e2] at this; omega)
    rwa [e2, e3] at this)
  have HPT : Hid (∀ k, k < cs.length + 1 → ∃ (p q : Nat) (v : Int), ptV b off ca zs cs k = .slice (some ⟨b, off + p, none⟩) (q - p) (ca - p) ∧ PtF zs p q v ∧ 0 ≤ v ∧ v ≤ 176000 ∧ (k < cs.length → ccN zs cs (k + 1) = ccN zs cs k + v) ∧ (k = cs.length → ccV zs cs price = price * cs.length + ccN zs cs cs.length + v)) := Lib.hid (fun k hk => by
    by_cases hk' : k < cs.length
    · obtain ⟨p, q, v, e1, e2, e3, _, _, e4, hF, v0, v1⟩ := cc_step hs hk'
      exact ⟨p, q, v, ptV_in hk' e1 e2, hF, v0, v1, fun _ => e4, fun h => absurd h (by omega)⟩
    · obtain rfl : k = cs.length := by omega
      obtain ⟨p, v, e1, hpl, e4, hF, v0, v1⟩ := cc_last hs
      exact ⟨p, zs.length, v, ptV_last e1, hF, v0, v1, fun h => absurd h (by omega), fun _ => e4⟩)
  have HB : Hid (∀ k, k ≤ cs.length → 0 ≤ ccN zs cs k ∧ ccN zs cs k ≤ 176000 * (k : Int)) := Lib.hid (ccN_bd hs)
  have hml : price * (cs.length : Int) ≤ 9999 * 8 := by
    have h1 : price * (cs.length : Int) ≤ 9999 * (cs.length : Int) := Int.mul_le_mul_of_nonneg_right pr1 (by omega)
    omega
  have hm0 : 0 ≤ price * (cs.length : Int) := Int.mul_nonneg pr0 (by omega)
  rw [q1] at HQ
  rw [q2] at HC
  rw [q3] at HI
  clear q1 q2 q3 hs
  obtain ⟨m, hmm⟩ : ∃ m, price * (cs.length : Int) = m := ⟨_, rfl⟩
  rw [hmm] at hml hm0 HPT
  have hwm : IntKind.i64.wrap m = m := IntWalk.i64_in _ ⟨by omega, by omega⟩
  go_enter Try.func28, Try.ntmps28
  go_wp2_with fail
  refine HQ.out.mono ?_
  rintro e w1 ⟨rfl, rfl⟩
  go_wp2_with fail
  refine HC.out.mono ?_
  rintro e w1 ⟨rfl, rfl⟩
  go_wp2_with fail
  refine (HI.out _).mono ?_
  rintro e w2 ⟨rfl, rfl⟩
  go_wp2_with fail
  refine HG.out.mono ?_
  rintro e w3 ⟨g, c, rfl, hgb, hO, k3⟩
  have HO := Lib.hid (fun W (k : Keep w3 W) (j : Nat) (hj : j < cs.length + 1) => show W.cell? ⟨g, j, none⟩ = some (ptV b off ca zs cs j) by
    have h1 := World.ownsRow.cellAt hO j (by omega)
    rw [ptL_at _ _ _ _ _ hj] at h1
    exact k.cell h1)
  have hgl := (hO.lt g rfl).2
  clear hO HG HQ HC HI
  go_wp2_with fail
  go_loopw [7, 33] (fun o i wr => ∃ k : Nat, k ≤ cs.length + 1 ∧ i = .int .i64 k ∧ (∃ s : Int, o = .int .i64 s ∧ Hid (k ≤ cs.length → s = m + ccN zs cs k) ∧ Hid (k = cs.length + 1 → s = ccV zs cs price)) ∧ Keep w3 wr) (fun _ i _ => cs.length + 1 - (intOf i).toNat)
  case atStart => exact ⟨0, by omega, rfl, ⟨m, by first | rfl | rw [hmm], Lib.hid (fun _ => by show m = m + 0; omega), Lib.hid (fun h => absurd h (by omega))⟩, Keep.refl _⟩
  case round =>
    obtain ⟨k, hk, rfl, ⟨s, rfl, H1, H2⟩, hK⟩ := hrel
    clear hmm
    by_cases hlt : k < cs.length + 1
    · obtain ⟨p, q, v, e1, hF, v0, v1, e2, e3⟩ := HPT.out k hlt
      have c0 := HO.out _ hK k hlt
      rw [e1] at c0
      obtain ⟨n0, n1⟩ := HB.out k (by omega)
      have HS := Lib.hid (H1.out (by omega))
      have HV := Lib.hid (HP.out p q v hF)
      have E2 := Lib.hid e2
      have E3 := Lib.hid e3
      have s0 : 0 ≤ s ∧ s ≤ 9000000 := by have := HS.out; omega
      have k0 : (0 : Int) ≤ (k : Int) := by omega
      have kz : (k : Int) < (cs.length : Int) + 1 := by omega
      clear hF e1 e2 e3 n0 n1 H1 H2
      go_wp2_with fail
      refine (HV.out _ _ (k3.trans hK)).mono ?_
      rintro e w9 ⟨rfl, k9⟩
      go_wp2
      go_roundw
      case rel => exact ⟨k + 1, by omega, by go_num, ⟨s + v, by go_num, Lib.hid (fun h => by rw [E2.out (by omega), HS.out]; omega), Lib.hid (fun h => by
        have hk9 : k = cs.length := by omega
        rw [E3.out hk9, HS.out, hk9])⟩, hK.trans k9⟩
      case measure => simp [intOf]; omega
    · obtain rfl : k = cs.length + 1 := by omega
      go_wp2
      go_ret
      exact ⟨retI (H2.out (by first | rfl | trivial)), k3.trans hK⟩
end Go.Proofs.Ytpgdbhafdnfhcaa
