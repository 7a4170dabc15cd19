/- P139: a line fills its own gaps. -/
import Derived.Test.YtkiibklenpncpaaDrLi
import Derived.Test.YtkiibklenpncpaaTrL
import Derived.Test.YtkiibklenpncpaaGl
import Derived.Test.YtkiibklenpncpaaGq
import Derived.Test.YtkiibklenpncpaaLw
import Derived.Test.YtkiibklenpncpaaFr
import Derived.LoopTactic
import Derived.IntWalk
import Derived.Deep.QuietTactic
import Derived.BigQuiet
namespace Go.Proofs.Ytkiibklenpncpaa
open Go.RowKit
set_option linter.unusedVariables false

/-- A line whose inner days are left out. -/
def lnY (L : List Int) (n : Nat) : List Int := (List.range n).map fun i : Nat => if i = 0 ∨ i + 1 = n then L.getD i 0 else -9999
theorem lnY_len (L : List Int) (n : Nat) : (lnY L n).length = n := by simp [lnY]
theorem lnY_at {L : List Int} {n i : Nat} (h : i < n) : (lnY L n).getD i 0 = if i = 0 ∨ i + 1 = n then L.getD i 0 else -9999 := getD_map_range _ h
theorem lnY_snoc {L : List Int} {n i : Nat} (h : i < n) : (lnY L n).take (i + 1) = (lnY L n).take i ++ [if i = 0 ∨ i + 1 = n then L.getD i 0 else -9999] := map_range_snoc _ h
theorem ln_fill {f s : Int} {n : Nat} (hb : liB f s (n : Int) = true) (hn : 3 ≤ n) (hs : 0 ≤ s) : gOk (lnY (lil f s n) n) (-999) 10999 s = true ∧
    ∀ i, i < n → gL (lnY (lil f s n) n) (-999) s i = f + (i : Int) * s ∧ gH (lnY (lil f s n) n) 10999 s i = f + (i : Int) * s := by
  obtain ⟨hs2, m, e, h2, h3, h4⟩ := liB_facts hb
  obtain rfl : n = m := by omega
  obtain ⟨q1, q2⟩ := lil_sq hb
  obtain ⟨L, hL⟩ : ∃ L, lil f s n = L := ⟨_, rfl⟩
  have hat : ∀ i, i < n → L.getD i 0 = f + (i : Int) * s := fun i hi => by rw [← hL, lil_at hi]
  have hlen : L.length = n := by rw [← hL, lil_len]
  rw [hL]
  have hbd : ∀ i, i < n → -999 ≤ L.getD i 0 ∧ L.getD i 0 ≤ 10999 := fun i hi => by rw [hat i hi]; exact h4 i hi
  have hsq : sqB (lnY L n) = true := sq_all (List.all_eq_true.2 fun x hx => by
    simp only [lnY, List.mem_map, List.mem_range] at hx
    obtain ⟨i, hi, rfl⟩ := hx
    split
    · exact qB_of (.inr (hbd i hi))
    · exact qB_of (.inl rfl)) (by rw [lnY_len]; omega)
  have hga : gaB (lnY L n) (-999) 10999 s = true := by
    rw [gaB, hsq]
    have h5 : inB s 0 19999 = true := inB_yes (by omega)
    rw [h5]; rfl
  have hst : ∀ k, k + 1 < n → L.getD (k + 1) 0 - L.getD k 0 = s := fun k hk => by
    rw [hat k (by omega), hat (k + 1) hk, show (((k + 1 : Nat)) : Int) = (k : Int) + 1 by omega, Int.add_mul]; omega
  have hff : ffV (lnY L n) L (-999) 10999 s = true := by
    have h6 : ffN (lnY L n) L (-999) 10999 s n = true := ffN_all n fun k hk => ffD_of ⟨hbd k hk, by
      rw [lnY_at hk]
      by_cases h7 : k = 0 ∨ k + 1 = n
      · exact .inr (by rw [if_pos h7])
      · exact .inl (by rw [if_neg h7]), by
      rcases Nat.eq_zero_or_pos k with h7 | h7
      · exact .inl h7
      · have h8 := hst (k - 1) (by omega)
        rw [Nat.sub_add_cancel h7] at h8
        exact .inr (by omega)⟩
    rw [ffV, hga, lnY_len, h6, hlen]; simp
  refine ⟨ff_ok hff, fun i hi => ?_⟩
  obtain ⟨f1, f2⟩ := ff_in hff (i := i) (by rw [lnY_len]; exact hi)
  rw [hat i hi] at f1 f2
  have g1 := ((gLo_iff (lnY L n) (-999) s i (gL (lnY L n) (-999) s i) (lnY L n).length).1 (Int.le_refl _)).2 (n - 1) (by rw [lnY_len]; omega) (by
    rw [lnY_at (by omega), if_pos (by omega)]; have := hbd (n - 1) (by omega); omega)
  have g2 := ((gHi_iff (lnY L n) 10999 s i (gH (lnY L n) 10999 s i) (lnY L n).length).1 (Int.le_refl _)).2 0 (by rw [lnY_len]; omega) (by
    rw [lnY_at (by omega), if_pos (by omega)]; have := hbd 0 (by omega); omega)
  rw [lnY_at (by omega), if_pos (by omega), hat _ (by omega)] at g1 g2
  have e1 : gFar (n - 1) i s = ((n - 1 : Nat) : Int) * s - (i : Int) * s := by
    rw [gFar, ← Int.sub_mul]
    congr 1
    split <;> omega
  have e2 : gFar 0 i s = (i : Int) * s := by
    rw [gFar]
    rcases Nat.eq_zero_or_pos i with h7 | h7
    · subst h7; simp
    · rw [if_pos h7, Nat.sub_zero]
  rw [e1] at g1
  rw [e2] at g2
  have e3 : ((0 : Nat) : Int) * s = 0 := by simp
  rw [e3] at g2
  omega
set_option maxRecDepth 100000 in
set_option maxHeartbeats 6400000 in
theorem walk_FnLine (a0 : Option Addr) (len0 cap0 : Nat) (z0 : List Int) (w : World) (w0 : IsRow .u8 w a0 len0 cap0 z0) :
    Calls Try.prog 8 #[.slice a0 len0 cap0] w fun e w' => e = .returned (.bool true) ∧ Below w.heap.size w w' := by
  have ha := code_of_row w0
  obtain ⟨hl0, hm0⟩ := ha.1
  unfold maxLen at hm0
  clear w0
  by_cases h : len0 ≤ 1048576
  case' neg =>
    have hd : decide (1048576 < (len0 : Int)) = true := by simp; omega
    go_enter Try.func8, Try.ntmps8
    go_wp2
    go_ret
    exact ⟨rfl, Below.refl _ _⟩
  have hd : decide (1048576 < (len0 : Int)) = false := by simp; omega
  go_enter Try.func8, Try.ntmps8
  go_wp2_with fail
  refine (drawLineOf a0 len0 cap0 _ ha).mono ?_
  rintro e w1 ⟨f, s, d, rfl, k1⟩
  clear ha
  have hll := liL_len f s d
  go_wp2_with fail
  refine (li_impl f s d _).mono ?_
  rintro e w2 ⟨p, q, rfl, hq, hF, k2⟩
  go_wp2_with fail
  refine (li_spec f s d _).mono ?_
  rintro e w3 ⟨p3, q3, rfl, hq3, hF3, k3⟩
  have K3 : Keep w w3 := (k1.trans k2).trans k3
  have hO := hF.ls.keep k3
  have hW := hF3.ls
  clear hF hF3 k1 k2 k3
  have hcase : liB f s d = false ∨ ∃ n : Nat, d = (n : Int) ∧ 1 ≤ n ∧ n ≤ 12 ∧ liB f s (n : Int) = true ∧ liL f s (n : Int) = lil f s n := by
    cases h : liB f s d with
    | false => exact .inl rfl
    | true =>
      obtain ⟨_, n, rfl, h1, h2, _⟩ := liB_facts h
      exact .inr ⟨n, rfl, h1, h2, h, liL_yes h⟩
  rcases hcase with hb | ⟨n, rfl, n1, n2, hb, hL⟩
  · rw [hb]
    generalize liL f s d = L at *
    go_wp2_with fail
    refine (sI_eq p p3 q q3 L _ hO hW (by omega)).mono ?_
    rintro e w4 ⟨rfl, k4⟩
    go_wp2_with fail
    refine (sI_eq p p3 q q3 L _ (hO.keep k4) (hW.keep k4) (by omega)).mono ?_
    rintro e w5 ⟨rfl, k5⟩
    go_wp2
    go_ret
    exact ⟨rfl, (K3.trans k4).trans k5⟩
  rw [hb, hL]
  rw [hL] at hO hW hq hq3 hll
  clear hL
  by_cases h3 : n < 3
  · have d2 : decide ((n : Int) < 3) = true := by simp; omega
    generalize lil f s n = L at *
    go_wp2_with fail
    refine (sI_eq p p3 q q3 L _ hO hW (by omega)).mono ?_
    rintro e w4 ⟨rfl, k4⟩
    go_wp2_with fail
    refine (sI_eq p p3 q q3 L _ (hO.keep k4) (hW.keep k4) (by omega)).mono ?_
    rintro e w5 ⟨rfl, k5⟩
    go_wp2
    go_ret
    exact ⟨rfl, (K3.trans k4).trans k5⟩
  have d2 : decide ((n : Int) < 3) = false := by simp; omega
  by_cases hs : s < 0
  · have d3 : decide (s < 0) = true := decide_eq_true hs
    generalize lil f s n = L at *
    go_wp2_with fail
    refine (sI_eq p p3 q q3 L _ hO hW (by omega)).mono ?_
    rintro e w4 ⟨rfl, k4⟩
    go_wp2_with fail
    refine (sI_eq p p3 q q3 L _ (hO.keep k4) (hW.keep k4) (by omega)).mono ?_
    rintro e w5 ⟨rfl, k5⟩
    go_wp2
    go_ret
    exact ⟨rfl, (K3.trans k4).trans k5⟩
  have d3 : decide (s < 0) = false := decide_eq_false hs
  obtain ⟨t1, t2⟩ := ln_fill hb (by omega) (by omega)
  have hYl := lnY_len (lil f s n) n
  have HYs := Lib.hid (fun i (hi : i < n) => lnY_snoc (L := lil f s n) (n := n) hi)
  have HLn : Hid ((lil f s n).length = n) := Lib.hid (lil_len f s n)
  have HAt : Hid (∀ i, i < n → (gRl (lnY (lil f s n) n) (-999) 10999 s).getD i u0 = ((lil f s n).getD i 0, (lil f s n).getD i 0)) := Lib.hid (fun i hi => by
    obtain ⟨a1, a2⟩ := t2 i hi
    rw [lil_at hi, ← a1]
    have e9 : gH (lnY (lil f s n) n) 10999 s i = gL (lnY (lil f s n) n) (-999) s i := by rw [a1, a2]
    rw [show (gRl (lnY (lil f s n) n) (-999) 10999 s).getD i u0 = (gL (lnY (lil f s n) n) (-999) s i, gH (lnY (lil f s n) n) 10999 s i) by simp [gRl, List.getD_eq_getElem?_getD, hYl, hi], e9])
  have HRl : Hid (gRL (lnY (lil f s n) n) (-999) 10999 s = gRl (lnY (lil f s n) n) (-999) 10999 s) := Lib.hid (gRL_yes t1)
  have HRn : Hid ((gRl (lnY (lil f s n) n) (-999) 10999 s).length = n) := Lib.hid (by rw [gRl_len, hYl])
  have HF : Hid (∀ a c W, Ls W a (lnY (lil f s n) n) → Calls Try.prog 41 #[.slice a n c, .int .i64 (-999), .int .i64 10999, .int .i64 s] W fun e w' => ∃ (a : Option Addr) (c : Nat), e = .returned (.tuple #[.slice a n c, .bool true]) ∧ Rr w' a (gRl (lnY (lil f s n) n) (-999) 10999 s) ∧ Keep W w') := Lib.hid (fun a c W h => by
    have h9 := fi_impl a c (lnY (lil f s n) n) (-999) 10999 s W h (by rw [hYl]; omega)
    rw [hYl] at h9
    refine h9.mono fun e w' ⟨a9, c9, he, _, hU, k9⟩ => ?_
    rw [HRl.out, t1, HRn.out] at he
    rw [HRl.out] at hU
    exact ⟨a9, c9, he, hU.rr, k9⟩)
  clear t1 t2 hb HRl
  have hlnn : (lil f s n).length = n := lil_len f s n
  rw [hlnn]
  generalize hY9 : lnY (lil f s n) n = Y at *
  generalize lil f s n = L at *
  generalize gRl Y (-999) 10999 s = RR at *
  have HS := Lib.hid (sI_eq p p3 q q3 L w3 hO hW (by omega))
  rw [hlnn] at HS
  have HO := Lib.hid (fun W (k : Keep w3 W) j (hj : j < n) => (hO.keep k).at_ (i := j) (by omega))
  clear hO hW hll hq hq3 hY9 hlnn
  obtain ⟨i0, hi0, hz0, hz1, hz2⟩ := info_parts infoIntL
  have HYl := Lib.hid hYl
  clear hYl
  go_wp2_with fail
  refine HS.out.mono ?_
  rintro e w4 ⟨rfl, k4⟩
  obtain ⟨bo, oo, rfl, _, c00⟩ := HO.out w4 k4 0 (by omega)
  rw [Nat.add_zero] at c00
  obtain ⟨m, hm⟩ : ∃ m, n = m + 1 := ⟨n - 1, by omega⟩
  have hm1 : m < n := by omega
  have hm2 : n ≤ m + 1 := by omega
  have HM := Lib.hid hm
  clear hm
  have e1 : (n : Int) - 1 = (m : Int) := by omega
  have ew : IntKind.i64.wrap ((n : Int) - 1) = (m : Int) := by rw [e1]; exact IntWalk.i64_in _ ⟨by omega, by omega⟩
  have hE0 : Y.take 1 = [L.getD 0 0] := by
    have h9 := HYs.out 0 (by omega)
    rw [if_pos (.inl rfl)] at h9; simpa using h9
  generalize hx0 : L.getD 0 0 = x0 at *
  have hownA : (w4.alloc (.cells #[.int .i64 x0] 3)).ownsRow w4.heap.size 3 1 (.slice (some ⟨w4.heap.size, 0, none⟩) 1 1) 1 [.int .i64 x0] := World.ownsRow_lit (base := w4.heap.size) (e := 3) (size := 1) w4 #[.int .i64 x0] 1 (Nat.le_refl _) (by unfold maxLen; omega) rfl
  have HA := Lib.hid (show OwI (w4.alloc (.cells #[.int .i64 x0] 3)) w4.heap.size (.slice (some ⟨w4.heap.size, 0, none⟩) 1 1) (Y.take 1) by rw [hE0]; exact hownA)
  clear hownA hE0 hx0
  have z1 : (0 : Int) < (n : Int) := by omega
  go_wp2_with fail
  go_loopw [10, 11] (fun u i wr => ∃ (k : Nat) (v : Value), 1 ≤ k ∧ k ≤ m ∧ i = .int .i64 k ∧ v = u ∧ Hid (OwI wr w4.heap.size v (Y.take k)) ∧ Keep w4 wr) (fun _ i _ => m - (intOf i).toNat)
  case atStart => exact ⟨1, _, Nat.le_refl _, by omega, by rfl, rfl, HA, (Keep.refl w4).alloc _⟩
  case round =>
    obtain ⟨k, v, hk1, hk, rfl, hvu, HR, hKr⟩ := hrel
    subst hvu
    have hsz := hKr.size
    have HLK : Hid ((Y.take k).length = k) := Lib.hid (by rw [List.length_take, HYl.out]; omega)
    by_cases hlt : k < m
    · have HN := HYs.out k (by omega)
      rw [if_neg (by omega)] at HN
      have HN := Lib.hid HN
      have hown : wr.ownsRow w4.heap.size 3 1 _ _ _ := (by have h9 := HR.out; unfold OwI at h9; rw [HLK.out] at h9; exact h9)
      go_wp2_with (at_builtin; refine wpList_append_own _ rfl _ _ 27 rfl w4.heap.size 3 i0 (.int .i64 0) 1 8 Try.underlying27 hi0 hz0 hz1 hz2 rfl (by decide) _ _ _ rfl (hown.alloc _) ⟨wr.heap.size, 0, none⟩ 1 1 [.int .i64 (-9999)] rfl rfl ?c1a ?c2a ?c3a ?c4a ?c5a ?_)
      try case c1a =>
        intro j u hj
        match j, hj with
        | 0, hj => simp at hj; subst hj; simp [Addr.add]
      case c2a => first | rfl | (intro u hu; simp at hu; subst hu; rfl)
      case c3a => unfold maxLen; omega
      case c4a => omega
      case c5a => first | omega | (simp; omega)
      intro v' w9 hown' hgrow hnil
      have HK2 : Hid (Keep w4 w9) := Lib.hid (Below.grown (hKr.alloc (.cells #[.int .i64 (-9999)] 3)) hgrow (hKr.alloc (.cells #[.int .i64 (-9999)] 3)).size (fun q hq => (hown.lt q hq).1))
      clear hgrow hnil hown
      have HN2 : Hid (OwI w9 w4.heap.size v' (Y.take (k + 1))) := Lib.hid (by rw [HN.out]; unfold OwI; rw [List.length_append, HLK.out, List.map_append, List.map_take]; exact hown')
      clear hown'
      go_wp2
      go_roundw
      case rel => exact ⟨k + 1, v', by omega, by omega, by go_num, rfl, HN2, HK2.out⟩
      case measure => simp [intOf]; omega
    · obtain rfl : k = m := by omega
      have HN := HYs.out k (by omega)
      rw [if_pos (.inr HM.out.symm)] at HN
      have HN := Lib.hid HN
      obtain ⟨b9, o9, hb9, _, cm⟩ := HO.out wr (k4.trans hKr) k (by omega)
      injection hb9 with hb9
      injection hb9 with hb9 hb8 _
      subst hb9
      subst hb8
      have m0 : (0 : Int) ≤ (k : Int) := by omega
      have mz : (k : Int) < (n : Int) := by omega
      generalize L.getD k 0 = xm at *
      have hown : wr.ownsRow w4.heap.size 3 1 _ _ _ := (by have h9 := HR.out; unfold OwI at h9; rw [HLK.out] at h9; exact h9)
      go_wp2_with (at_builtin; refine wpList_append_own _ rfl _ _ 27 rfl w4.heap.size 3 i0 (.int .i64 0) 1 8 Try.underlying27 hi0 hz0 hz1 hz2 rfl (by decide) _ _ _ rfl (hown.alloc _) ⟨wr.heap.size, 0, none⟩ 1 1 [.int .i64 xm] rfl rfl ?c1a ?c2a ?c3a ?c4a ?c5a ?_)
      try case c1a =>
        intro j u hj
        match j, hj with
        | 0, hj => simp at hj; subst hj; simp [Addr.add]
      case c2a => first | rfl | (intro u hu; simp at hu; subst hu; rfl)
      case c3a => unfold maxLen; omega
      case c4a => omega
      case c5a => first | omega | (simp; omega)
      intro v' w9 hown' hgrow hnil
      have HK2 : Hid (Keep w4 w9) := Lib.hid (Below.grown (hKr.alloc (.cells #[.int .i64 xm] 3)) hgrow (hKr.alloc (.cells #[.int .i64 xm] 3)).size (fun q hq => (hown.lt q hq).1))
      clear hgrow hnil hown
      have HN2 : Hid (OwI w9 w4.heap.size v' Y) := Lib.hid (by
        have h8 : Y.take (k + 1) = Y := List.take_of_length_le (by rw [HYl.out]; omega)
        rw [← h8, HN.out]; unfold OwI; rw [List.length_append, HLK.out, List.map_append, List.map_take]; exact hown')
      clear hown'
      obtain ⟨aY, cY, hvY, _, hlY⟩ := HN2.out.slice
      subst hvY
      rw [HYl.out]
      have HFc := Lib.hid (HF.out aY cY w9 hlY)
      have K9 : Keep w3 w9 := k4.trans HK2.out
      clear hlY cm c00 HN2 HR HF HN
      go_wp2_with fail
      refine HFc.out.mono ?_
      rintro e w10 ⟨aR, cR, rfl, hRr, k10⟩
      have K10 : Keep w3 w10 := K9.trans k10
      have HRR := Lib.hid (fun W (k : Keep w10 W) => hRr.keep k)
      have KF := K3.trans K10
      clear hRr K9 k10 HFc
      go_wp2_with fail
      go_loopw [14] (fun i wr => ∃ k : Nat, k ≤ n ∧ i = .int .i64 k ∧ Keep w10 wr) (fun i _ => n - (intOf i).toNat)
      case atStart => exact ⟨0, by omega, rfl, Keep.refl _⟩
      case round =>
        obtain ⟨j, hj, rfl, hKj⟩ := hrel
        by_cases hjl : j < n
        · obtain ⟨bR, oR, rfl, _, hcR⟩ := (HRR.out _ hKj).at_ (i := j) (by rw [HRn.out]; exact hjl)
          obtain ⟨r0, r1⟩ := hcR
          rw [HAt.out j hjl] at r0 r1
          unfold uL at r0
          unfold uH at r1
          dsimp only at r0 r1
          obtain ⟨b9, o9, hb9, _, cj⟩ := HO.out wr (K10.trans hKj) j hjl
          injection hb9 with hb9
          injection hb9 with hb9 hb8 _
          subst hb9
          subst hb8
          have jz : (j : Int) < (n : Int) := by omega
          have j0 : (0 : Int) ≤ (j : Int) := by omega
          generalize L.getD j 0 = y at *
          go_wp2_with fail
          go_quiet (fail)
          go_wp2
          go_roundw
          case rel => exact ⟨j + 1, by omega, by go_num, by first | exact hKj.drewN _ | exact (hKj.drewN _).drewN _ | exact hKj⟩
          case measure => simp [intOf]; omega
        · obtain rfl : j = n := by omega
          go_wp2
          go_ret
          exact ⟨retB (by simp), KF.trans hKj⟩
end Go.Proofs.Ytkiibklenpncpaa
