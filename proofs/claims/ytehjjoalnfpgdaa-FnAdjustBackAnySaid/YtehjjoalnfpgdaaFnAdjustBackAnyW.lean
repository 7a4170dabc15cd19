/- P89: an adjustment taken back, with any steps. -/
import Derived.Test.YtehjjoalnfpgdaaDrAk
import Derived.Test.YtehjjoalnfpgdaaAq
import Derived.Test.YtehjjoalnfpgdaaAt
import Derived.Test.YtehjjoalnfpgdaaAk
import Derived.Test.YtehjjoalnfpgdaaLw
import Derived.Test.YtehjjoalnfpgdaaFr
import Derived.IntWalk
import Derived.LoopTactic
namespace Go.Proofs.Ytehjjoalnfpgdaa
open Go.RowKit
set_option linter.unusedVariables false

theorem hasI_anyB (a : Option Addr) (c : Nat) (zs : List Int) (n : Int) (w : World) (h : Ls w a zs) (hm : zs.length ≤ 1048576) :
    Calls Try.prog 25 #[.slice a zs.length c, .int .i64 n] w fun e w' => e = .returned (.bool (decide (n ∈ zs))) ∧ w = w' := by
  go_enter Try.func25, Try.ntmps25
  go_wp2_with fail
  go_loop [5] (fun i => ∃ k : Nat, k ≤ zs.length ∧ i = .int .i64 k ∧ Hid (n ∉ zs.take k)) (fun i => zs.length - (intOf i).toNat)
  case atStart => exact ⟨0, by omega, rfl, Lib.hid (by simp)⟩
  case round =>
    obtain ⟨k, hk, rfl, HN⟩ := hrel
    by_cases hlt : k < zs.length
    · obtain ⟨b, off, rfl, hb, c0⟩ := h.at_ hlt
      have ht : zs.take (k + 1) = zs.take k ++ [zs.getD k 0] := by
        rw [List.take_add_one]; simp [List.getD_eq_getElem?_getD, hlt]
      have hin : zs.getD k 0 ∈ zs := by simp [List.getD_eq_getElem?_getD, hlt]
      by_cases hx : zs.getD k 0 = n
      · have HM : Hid (true = decide (n ∈ zs)) := Lib.hid (by rw [← hx]; exact (decide_eq_true hin).symm)
        generalize zs.getD k 0 = x at c0 hx
        subst hx
        clear ht hin
        go_wp2
        go_ret
        exact ⟨retB HM.out, rfl⟩
      · have HN2 : Hid (n ∉ zs.take (k + 1)) := Lib.hid (by
          rw [ht, List.mem_append]
          rintro (h1 | h1)
          · exact HN.out h1
          · exact hx (List.mem_singleton.1 h1).symm)
        generalize zs.getD k 0 = x at c0 hx
        have hx1 : (x == n) = false := by simpa using hx
        clear ht hin
        go_wp2
        go_round
        case rel => exact ⟨k + 1, by omega, by go_num, HN2⟩
        case measure => simp [intOf]; omega
    · have HM : Hid (false = decide (n ∈ zs)) := Lib.hid (by
        have h1 := HN.out
        rw [List.take_of_length_le (by omega)] at h1
        exact (decide_eq_false h1).symm)
      obtain rfl : k = zs.length := by omega
      go_wp2
      go_ret
      exact ⟨retB HM.out, rfl⟩
set_option maxRecDepth 100000 in
set_option maxHeartbeats 6400000 in
theorem walk_FnAdjustBackAny (a0 : Option Addr) (len0 cap0 : Nat) (z0 : List Int) (w : World) (w0 : IsRow .u8 w a0 len0 cap0 z0) :
    Calls Try.prog 9 #[.slice a0 len0 cap0] w fun e w' => e = .returned (.bool true) ∧ Below w.heap.size w w' := by
  have ha := code_of_row w0
  obtain ⟨hl0, hm0⟩ := ha.1
  unfold maxLen at hm0
  clear w0
  by_cases h : len0 ≤ 1048576
  case' neg =>
    have hd : decide (1048576 < (len0 : Int)) = true := by simp; omega
    go_enter Try.func9, Try.ntmps9
    go_wp2
    go_ret
    exact ⟨rfl, Below.refl _ _⟩
  have hd : decide (1048576 < (len0 : Int)) = false := by simp; omega
  go_enter Try.func9, Try.ntmps9
  go_wp2_with fail
  refine (drawAdjustBack a0 len0 cap0 _ ha).mono ?_
  rintro e w1 ⟨a, b0, s0, ca, cb, cs0, zs, cs, st, rfl, ⟨hl11, hca⟩, ⟨hl13, hcb⟩, ⟨hl14, hcs⟩, hL1, hC1, hS1, k1⟩
  clear ha
  have hz := abL_le zs cs st
  go_wp2_with fail
  refine (ab_impl a b0 s0 ca cb cs0 zs cs st _ hL1 hC1 hS1 hca (by omega) (by omega) (by omega)).mono ?_
  rintro e w2 ⟨p, q, rfl, hq, hF2, k2⟩
  go_wp2_with fail
  refine (ab_spec a b0 s0 ca cb cs0 zs cs st _ (hL1.keep k2) (hC1.keep k2) (hS1.keep k2) hca (by omega) (by omega) (by omega)).mono ?_
  rintro e w3 ⟨p3, q3, rfl, hq3, hF3, k3⟩
  have K3 : Keep w1 w3 := k2.trans k3
  have hO := hF2.ls.keep k3
  have hW := hF3.ls
  have hL := hL1.keep K3
  have hC := hC1.keep K3
  have hS := hS1.keep K3
  have KF := k1.trans K3
  clear hF2 hF3 k2 k3 hL1 hC1 hS1 K3 k1
  rcases Bool.eq_false_or_eq_true (abB zs cs st) with hs | hs
  case' inr =>
    generalize abL zs cs st = L at *
    rw [hs]
    clear hs
    go_wp2_with fail
    refine (sI_eq p p3 q q3 L _ hO hW (by omega)).mono ?_
    rintro e w5 ⟨rfl, k5⟩
    go_wp2_with fail
    refine (sI_eq p p3 q q3 L _ (hO.keep k5) (hW.keep k5) (by omega)).mono ?_
    rintro e w7 ⟨rfl, k7⟩
    go_wp2
    go_ret
    exact ⟨rfl, (KF.trans k5).trans k7⟩
  obtain ⟨t1, t2, t3, t4⟩ := ab_turn hs
  obtain ⟨y1, y2, y3⟩ := abG_facts (abB_facts hs).1
  obtain ⟨l1, l8, hlc⟩ := ajB_len y1
  have HBd := Lib.hid (fun j (hj : j < st.length) => stA_at y3 hj)
  have HZ := Lib.hid (fun i (hi : i < zs.length) => sh_at (ajB_facts y1).1 hi)
  have HPl : Hid (∀ i : Nat, prt cs (i : Int) < st.length) := Lib.hid (fun i => by have := prt_le y1 (i : Int); omega)
  have HPn : Hid (∀ i : Nat, ((i : Int) ∈ cs → prt cs ((i : Int) - 1) + 1 = prt cs (i : Int)) ∧ ((i : Int) ∉ cs → prt cs ((i : Int) - 1) = prt cs (i : Int))) := Lib.hid (fun i => by
    have h9 := prt_next y1 (i : Int)
    exact ⟨fun hm => by rw [h9, if_pos hm], fun hm => by rw [h9, if_neg hm]; rfl⟩)
  have HP0 : Hid (prt cs (((0 : Nat) : Int) - 1) = 0) := Lib.hid (by
    have h8 := prt_zero y1
    have h9 := prt_next y1 0
    rw [h8] at h9
    have h7 : (((0 : Nat) : Int) - 1) = (0 : Int) - 1 := rfl
    rw [h7]; omega)
  have HAt := Lib.hid t4
  have HLt := Lib.hid t3
  have HAb : Hid (∀ W, Keep w3 W → ∀ x c n, n = st.length → Ls W x (ngL st) → Calls Try.prog 19 #[.slice p (abL zs cs st).length q, .slice b0 cs.length cb, .slice x n c] W (NwB zs true W)) := Lib.hid (fun W k x c n hn h9 => by
    have h8 := ab_impl p b0 x q cb c (abL zs cs st) cs (ngL st) W (hO.keep k) (hC.keep k) h9 hq (by omega) (by omega) (by rw [ngL_len]; omega)
    rw [t1, t2, ngL_len, ← hn] at h8
    exact h8)
  have HSt := Lib.hid (fun j (hj : j < st.length) W (k : Keep w3 W) => (hS.keep k).at_ (i := j) hj)
  have HZs := Lib.hid (fun j (hj : j < zs.length) W (k : Keep w3 W) => (hL.keep k).at_ (i := j) hj)
  have HOs := Lib.hid (fun j (hj : j < zs.length) W (k : Keep w3 W) => (hO.keep k).at_ (i := j) (by rw [t3]; exact hj))
  have HHi := Lib.hid (fun i W (k : Keep w3 W) => hasI_anyB b0 cb cs i W (hC.keep k) (by omega))
  have HLz := Lib.hid (fun W (k : Keep w3 W) => hL.keep k)
  have hst8 : st.length ≤ 8 := by omega
  obtain ⟨i0, hi0, hz0, hz1, hz2⟩ := info_parts infoIntO
  rw [hs]
  clear hs t1 t2 t3 t4 y1 y2 y3 hL hC hS hlc
  generalize abL zs cs st = L at *
  go_wp2_with fail
  refine (sI_eq p p3 q q3 L _ hO hW (by omega)).mono ?_
  rintro e w4 ⟨rfl, k4⟩
  clear hO hW
  go_wp2_with fail
  go_loopw [10, 11] (fun u i wr => ∃ (k : Nat) (v : Value), k ≤ st.length ∧ i = .int .i64 k ∧ v = u ∧ Hid (OwI wr w4.heap.size v (ngL (st.take k))) ∧ Keep w4 wr) (fun _ i _ => st.length - (intOf i).toNat)
  case atStart => exact ⟨0, _, by omega, rfl, rfl, Lib.hid (by simpa [ngL] using OwI.made w4), (Keep.refl w4).alloc _⟩
  case round =>
    obtain ⟨k, v, hk, rfl, hvu, HR, hKr⟩ := hrel
    subst hvu
    have hsz := hKr.size
    have k0 : (0 : Int) ≤ (k : Int) := by omega
    by_cases hlt : k < st.length
    · obtain ⟨bs, os, rfl, hbs, cs1⟩ := HSt.out k hlt wr (k4.trans hKr)
      obtain ⟨s0, s1⟩ := HBd.out _ hlt
      have kz : (k : Int) < (st.length : Int) := by omega
      have HX : Hid (ngL (st.take (k + 1)) = ngL (st.take k) ++ [-(st.getD k 0)]) := Lib.hid (by
        have h9 : st.take (k + 1) = st.take k ++ [st.getD k 0] := by
          rw [List.take_add_one]; simp [List.getD_eq_getElem?_getD, hlt]
        rw [h9]; simp [ngL])
      have HLK : Hid ((ngL (st.take k)).length = k) := Lib.hid (by rw [ngL_len, List.length_take]; omega)
      generalize st.getD k 0 = x at *
      have wx : IntKind.i64.wrap (-x) = -x := IntWalk.i64_in _ ⟨by omega, by omega⟩
      generalize ngL (st.take k) = T at *
      have hown : wr.ownsRow w4.heap.size 3 1 _ _ _ := (by have h9 := HR.out; unfold OwI at h9; rw [HLK.out] at h9; exact h9)
      go_wp2_with (at_builtin; refine wpList_append_own _ rfl _ _ 23 rfl w4.heap.size 3 i0 (.int .i64 0) 1 8 Try.underlying23 hi0 hz0 hz1 hz2 rfl (by decide) _ _ _ rfl (hown.alloc _) ⟨wr.heap.size, 0, none⟩ 1 1 [.int .i64 (-x)] rfl rfl ?c1a ?c2a ?c3a ?c4a ?c5a ?_)
      try case c1a =>
        intro j u hj
        match j, hj with
        | 0, hj => simp at hj; subst hj; simp [Addr.add]
      case c2a => first | rfl | (intro u hu; simp at hu; subst hu; rfl)
      case c3a => unfold maxLen; omega
      case c4a => omega
      case c5a => first | omega | (simp; omega)
      intro v' w9 hown' hgrow hnil
      have HK2 : Hid (Keep w4 w9) := Lib.hid (Below.grown (hKr.alloc (.cells #[.int .i64 (-x)] 3)) hgrow (hKr.alloc (.cells #[.int .i64 (-x)] 3)).size (fun q hq => (hown.lt q hq).1))
      clear hgrow hnil hown
      have HN : Hid (OwI w9 w4.heap.size v' (ngL (st.take (k + 1)))) := Lib.hid (by rw [HX.out]; unfold OwI; rw [List.length_append, List.map_append, HLK.out]; exact hown')
      clear hown'
      go_wp2
      go_roundw
      case rel => exact ⟨k + 1, _, by omega, by go_num, rfl, HN, HK2.out⟩
      case measure => simp [intOf]; omega
    · obtain rfl : k = st.length := by omega
      rw [List.take_length] at HR
      obtain ⟨x5, c5, rfl, _, hT5⟩ := HR.out.slice
      rw [ngL_len]
      go_wp2_with fail
      refine (HAb.out wr (k4.trans hKr) x5 c5 _ rfl hT5).mono ?_
      rintro e w6 ⟨p6, q6, rfl, hq6, hF6, k6⟩
      have K6 : Keep w3 w6 := (k4.trans hKr).trans k6
      have KK := KF.trans K6
      have hF6' := hF6.ls
      clear HR hT5 hF6 HAb k6 hKr
      go_wp2_with fail
      go_loopw [14, 15] (fun u i wr2 => ∃ k : Nat, k ≤ zs.length ∧ i = .int .i64 k ∧ u = .int .i64 ((prt cs ((k : Int) - 1) : Nat) : Int) ∧ Keep w6 wr2) (fun _ i _ => zs.length - (intOf i).toNat)
      case atStart => exact ⟨0, by omega, rfl, by rw [HP0.out]; rfl, Keep.refl _⟩
      case round =>
        obtain ⟨k, hk, rfl, rfl, hKr⟩ := hrel
        have k0 : (0 : Int) ≤ (k : Int) := by omega
        by_cases hlt : k < zs.length
        · have kz : (k : Int) < (zs.length : Int) := by omega
          have hK3 := K6.trans hKr
          obtain ⟨bz, oz, hbz, _, cz⟩ := HZs.out k hlt wr hK3
          obtain ⟨bo, oo, hbo, _, co⟩ := HOs.out k hlt wr hK3
          have hpl := HPl.out k
          obtain ⟨bs, os, hbs, _, cs9⟩ := HSt.out _ hpl wr hK3
          obtain ⟨z0, z1⟩ := HZ.out k hlt
          obtain ⟨s0, s1⟩ := HBd.out _ hpl
          rw [HAt.out k hlt] at co
          have HPk := HPn.out k
          have kL : k < L.length := by rw [HLt.out]; exact hlt
          have kL2 : (k : Int) < (L.length : Int) := by omega
          have HP1 : Hid (prt cs (((k + 1 : Nat) : Int) - 1) = prt cs (k : Int)) := Lib.hid (by rw [show (((k + 1 : Nat) : Int) - 1) = (k : Int) by omega])
          have pz : ((prt cs (k : Int) : Nat) : Int) < (st.length : Int) := by omega
          have p0 : (0 : Int) ≤ ((prt cs (k : Int) : Nat) : Int) := by omega
          generalize prt cs ((k : Int) - 1) = po at *
          generalize hpn : prt cs (k : Int) = pn at *
          generalize zs.getD k 0 = x at *
          generalize st.getD pn 0 = y at *
          have wx : IntKind.i64.wrap (x - y) = x - y := IntWalk.i64_in _ ⟨by omega, by omega⟩
          have hmix : Try.prog.follows .mixedOrders = true := by kernel_rfl
          subst hbz
          subst hbo
          subst hbs
          go_wp2_with fail
          refine (HHi.out k wr hK3).mono ?_
          rintro e w7 ⟨rfl, rfl⟩
          by_cases hm : (k : Int) ∈ cs
          · have hd : decide ((k : Int) ∈ cs) = true := decide_eq_true hm
            have hpp : (po : Int) + 1 = (pn : Int) := by have := HPk.1 hm; omega
            have wp : IntKind.i64.wrap (pn : Int) = (pn : Int) := IntWalk.i64_in _ ⟨by omega, by omega⟩
            rw [hd]
            go_wp2_with fail
            refine wp_region_any hmix ?_
            (try (change wpAny _ _ _ _ _ _ _ (World.drew _)))
            refine wpAny_take (i := 0) (oi := ({ dst := some 93, op := Op.move (Operand.tmp 6), type := 23, pos := "laws.go:1726", after := #[], guard := none })) (v := ?v15) rfl (by kernel_rfl) (by kernel_rfl) (by kernel_rfl) (fun _ _ _ h => h) (Or.inl ⟨by rfl, ?hy15⟩) ?rest15
            case hy15 => (intro w; go_simp; try with_reducible rfl)
            try simp only [Act.put, List.setIfInBounds_toArray, List.set_cons_zero, List.set_cons_succ]
            refine wpAny_take (i := 1) (oi := ({ dst := some 94, op := Op.move (Operand.tmp 15), type := 3, pos := "laws.go:1726", after := #[], guard := none })) (v := ?v16) rfl (by kernel_rfl) (by kernel_rfl) (by kernel_rfl) (fun _ _ _ h => h) (Or.inl ⟨by rfl, ?hy16⟩) ?rest16
            case hy16 => (intro w; go_simp; try with_reducible rfl)
            try simp only [Act.put, List.setIfInBounds_toArray, List.set_cons_zero, List.set_cons_succ]
            refine wpAny_take (i := 2) (oi := ({ dst := some 95, op := Op.indexAddr 23 (Operand.tmp 93) (Operand.tmp 94), type := 0, pos := "laws.go:1726", after := #[{ on := 0, ground := Ground.data }, { on := 1, ground := Ground.data }], guard := none })) (v := ?v17) rfl (by kernel_rfl) (by kernel_rfl) (by kernel_rfl) (fun _ _ _ h => h) (Or.inl ⟨by rfl, ?hy17⟩) ?rest17
            case hy17 => (intro w; go_simp; try with_reducible rfl)
            try simp only [Act.put, List.setIfInBounds_toArray, List.set_cons_zero, List.set_cons_succ]
            refine wpAny_take (i := 4) (oi := ({ dst := some 97, op := Op.move (Operand.tmp 3), type := 23, pos := "laws.go:1726", after := #[], guard := none })) (v := ?v18) rfl (by kernel_rfl) (by kernel_rfl) (by kernel_rfl) (fun _ _ _ h => h) (Or.inl ⟨by rfl, ?hy18⟩) ?rest18
            case hy18 => (intro w; go_simp; try with_reducible rfl)
            try simp only [Act.put, List.setIfInBounds_toArray, List.set_cons_zero, List.set_cons_succ]
            refine wpAny_take (i := 5) (oi := ({ dst := some 98, op := Op.move (Operand.tmp 15), type := 3, pos := "laws.go:1726", after := #[], guard := none })) (v := ?v19) rfl (by kernel_rfl) (by kernel_rfl) (by kernel_rfl) (fun _ _ _ h => h) (Or.inl ⟨by rfl, ?hy19⟩) ?rest19
            case hy19 => (intro w; go_simp; try with_reducible rfl)
            try simp only [Act.put, List.setIfInBounds_toArray, List.set_cons_zero, List.set_cons_succ]
            refine wpAny_take (i := 6) (oi := ({ dst := some 99, op := Op.indexAddr 23 (Operand.tmp 97) (Operand.tmp 98), type := 0, pos := "laws.go:1726", after := #[{ on := 4, ground := Ground.data }, { on := 5, ground := Ground.data }], guard := none })) (v := ?v20) rfl (by kernel_rfl) (by kernel_rfl) (by kernel_rfl) (fun _ _ _ h => h) (Or.inl ⟨by rfl, ?hy20⟩) ?rest20
            case hy20 => (intro w; go_simp; try with_reducible rfl)
            try simp only [Act.put, List.setIfInBounds_toArray, List.set_cons_zero, List.set_cons_succ]
            refine wpAny_take (i := 8) (oi := ({ dst := some 101, op := Op.move (Operand.tmp 5), type := 23, pos := "laws.go:1726", after := #[], guard := none })) (v := ?v21) rfl (by kernel_rfl) (by kernel_rfl) (by kernel_rfl) (fun _ _ _ h => h) (Or.inl ⟨by rfl, ?hy21⟩) ?rest21
            case hy21 => (intro w; go_simp; try with_reducible rfl)
            try simp only [Act.put, List.setIfInBounds_toArray, List.set_cons_zero, List.set_cons_succ]
            refine wpAny_take (i := 9) (oi := ({ dst := some 102, op := Op.move (Operand.tmp 14), type := 3, pos := "laws.go:1726", after := #[], guard := none })) (v := ?v22) rfl (by kernel_rfl) (by kernel_rfl) (by kernel_rfl) (fun _ _ _ h => h) (Or.inl ⟨by rfl, ?hy22⟩) ?rest22
            case hy22 => (intro w; go_simp; try with_reducible rfl)
            try simp only [Act.put, List.setIfInBounds_toArray, List.set_cons_zero, List.set_cons_succ]
            refine wpAny_take (i := 10) (oi := ({ dst := some 103, op := Op.indexAddr 23 (Operand.tmp 101) (Operand.tmp 102), type := 0, pos := "laws.go:1726", after := #[{ on := 8, ground := Ground.data }, { on := 9, ground := Ground.data }], guard := none })) (v := ?v23) rfl (by kernel_rfl) (by kernel_rfl) (by kernel_rfl) (fun _ _ _ h => h) (Or.inl ⟨by rfl, ?hy23⟩) ?rest23
            case hy23 => (intro w; go_simp; try with_reducible rfl)
            try simp only [Act.put, List.setIfInBounds_toArray, List.set_cons_zero, List.set_cons_succ]
            refine wpAny_ready (rs := [3, 7, 11]) (by kernel_rfl) (by simp) ?_
            refine AllReady.cons (o := ({ dst := some 96, op := Op.load 3 (Operand.tmp 95), type := 3, pos := "laws.go:1726", after := #[{ on := 2, ground := Ground.data }], guard := none })) rfl (fun K hK => ?_) ?_
            ·
              go_simp
              refine hK _ _ ?_
              clear hK K
              try simp only [Act.put, List.setIfInBounds_toArray, List.set_cons_zero, List.set_cons_succ]
              refine wpAny_ready (rs := [7, 11]) (by kernel_rfl) (by simp) ?_
              refine AllReady.cons (o := ({ dst := some 100, op := Op.load 3 (Operand.tmp 99), type := 3, pos := "laws.go:1726", after := #[{ on := 6, ground := Ground.data }], guard := none })) rfl (fun K hK => ?_) ?_
              ·
                go_simp
                refine hK _ _ ?_
                clear hK K
                try simp only [Act.put, List.setIfInBounds_toArray, List.set_cons_zero, List.set_cons_succ]
                refine wpAny_ready (rs := [11]) (by kernel_rfl) (by simp) ?_
                refine AllReady.cons (o := ({ dst := some 104, op := Op.load 3 (Operand.tmp 103), type := 3, pos := "laws.go:1726", after := #[{ on := 10, ground := Ground.data }], guard := none })) rfl (fun K hK => ?_) ?_
                ·
                  go_simp
                  refine hK _ _ ?_
                  clear hK K
                  try simp only [Act.put, List.setIfInBounds_toArray, List.set_cons_zero, List.set_cons_succ]
                  refine wpAny_take (i := 12) (oi := ({ dst := some 105, op := Op.binOp BinOp.sub 3 (Operand.tmp 100) (Operand.tmp 104) 3, type := 3, pos := "laws.go:1726", after := #[{ on := 7, ground := Ground.data }, { on := 11, ground := Ground.data }], guard := none })) (v := ?v24) rfl (by kernel_rfl) (by kernel_rfl) (by kernel_rfl) (fun _ _ _ h => h) (Or.inl ⟨by rfl, ?hy24⟩) ?rest24
                  case hy24 => (intro w; go_simp; try with_reducible rfl)
                  try simp only [Act.put, List.setIfInBounds_toArray, List.set_cons_zero, List.set_cons_succ]
                  refine wpAny_take (i := 13) (oi := ({ dst := some 106, op := Op.binOp BinOp.neq 3 (Operand.tmp 96) (Operand.tmp 105) 3, type := 4, pos := "laws.go:1726", after := #[{ on := 3, ground := Ground.data }, { on := 12, ground := Ground.data }], guard := none })) (v := ?v25) rfl (by kernel_rfl) (by kernel_rfl) (by kernel_rfl) (fun _ _ _ h => h) (Or.inl ⟨by rfl, ?hy25⟩) ?rest25
                  case hy25 => (intro w; go_simp; try with_reducible rfl)
                  try simp only [Act.put, List.setIfInBounds_toArray, List.set_cons_zero, List.set_cons_succ]
                  refine wpAny_done (by kernel_rfl) ?_ _
                  go_wp2
                  go_roundw
                  case rel => exact ⟨k + 1, by omega, by go_num, by rw [HP1.out]; try go_num, by first | exact hKr | exact hKr.drew⟩
                  case measure => simp [intOf]; omega
                exact AllReady.nil
              refine AllReady.cons (o := ({ dst := some 104, op := Op.load 3 (Operand.tmp 103), type := 3, pos := "laws.go:1726", after := #[{ on := 10, ground := Ground.data }], guard := none })) rfl (fun K hK => ?_) ?_
              ·
                go_simp
                refine hK _ _ ?_
                clear hK K
                try simp only [Act.put, List.setIfInBounds_toArray, List.set_cons_zero, List.set_cons_succ]
                refine wpAny_ready (rs := [7]) (by kernel_rfl) (by simp) ?_
                refine AllReady.cons (o := ({ dst := some 100, op := Op.load 3 (Operand.tmp 99), type := 3, pos := "laws.go:1726", after := #[{ on := 6, ground := Ground.data }], guard := none })) rfl (fun K hK => ?_) ?_
                ·
                  go_simp
                  refine hK _ _ ?_
                  clear hK K
                  try simp only [Act.put, List.setIfInBounds_toArray, List.set_cons_zero, List.set_cons_succ]
                  refine wpAny_take (i := 12) (oi := ({ dst := some 105, op := Op.binOp BinOp.sub 3 (Operand.tmp 100) (Operand.tmp 104) 3, type := 3, pos := "laws.go:1726", after := #[{ on := 7, ground := Ground.data }, { on := 11, ground := Ground.data }], guard := none })) (v := ?v26) rfl (by kernel_rfl) (by kernel_rfl) (by kernel_rfl) (fun _ _ _ h => h) (Or.inl ⟨by rfl, ?hy26⟩) ?rest26
                  case hy26 => (intro w; go_simp; try with_reducible rfl)
                  try simp only [Act.put, List.setIfInBounds_toArray, List.set_cons_zero, List.set_cons_succ]
                  refine wpAny_take (i := 13) (oi := ({ dst := some 106, op := Op.binOp BinOp.neq 3 (Operand.tmp 96) (Operand.tmp 105) 3, type := 4, pos := "laws.go:1726", after := #[{ on := 3, ground := Ground.data }, { on := 12, ground := Ground.data }], guard := none })) (v := ?v27) rfl (by kernel_rfl) (by kernel_rfl) (by kernel_rfl) (fun _ _ _ h => h) (Or.inl ⟨by rfl, ?hy27⟩) ?rest27
                  case hy27 => (intro w; go_simp; try with_reducible rfl)
                  try simp only [Act.put, List.setIfInBounds_toArray, List.set_cons_zero, List.set_cons_succ]
                  refine wpAny_done (by kernel_rfl) ?_ _
                  go_wp2
                  go_roundw
                  case rel => exact ⟨k + 1, by omega, by go_num, by rw [HP1.out]; try go_num, by first | exact hKr | exact hKr.drew⟩
                  case measure => simp [intOf]; omega
                exact AllReady.nil
              exact AllReady.nil
            refine AllReady.cons (o := ({ dst := some 100, op := Op.load 3 (Operand.tmp 99), type := 3, pos := "laws.go:1726", after := #[{ on := 6, ground := Ground.data }], guard := none })) rfl (fun K hK => ?_) ?_
            ·
              go_simp
              refine hK _ _ ?_
              clear hK K
              try simp only [Act.put, List.setIfInBounds_toArray, List.set_cons_zero, List.set_cons_succ]
              refine wpAny_ready (rs := [3, 11]) (by kernel_rfl) (by simp) ?_
              refine AllReady.cons (o := ({ dst := some 96, op := Op.load 3 (Operand.tmp 95), type := 3, pos := "laws.go:1726", after := #[{ on := 2, ground := Ground.data }], guard := none })) rfl (fun K hK => ?_) ?_
              ·
                go_simp
                refine hK _ _ ?_
                clear hK K
                try simp only [Act.put, List.setIfInBounds_toArray, List.set_cons_zero, List.set_cons_succ]
                refine wpAny_ready (rs := [11]) (by kernel_rfl) (by simp) ?_
                refine AllReady.cons (o := ({ dst := some 104, op := Op.load 3 (Operand.tmp 103), type := 3, pos := "laws.go:1726", after := #[{ on := 10, ground := Ground.data }], guard := none })) rfl (fun K hK => ?_) ?_
                ·
                  go_simp
                  refine hK _ _ ?_
                  clear hK K
                  try simp only [Act.put, List.setIfInBounds_toArray, List.set_cons_zero, List.set_cons_succ]
                  refine wpAny_take (i := 12) (oi := ({ dst := some 105, op := Op.binOp BinOp.sub 3 (Operand.tmp 100) (Operand.tmp 104) 3, type := 3, pos := "laws.go:1726", after := #[{ on := 7, ground := Ground.data }, { on := 11, ground := Ground.data }], guard := none })) (v := ?v28) rfl (by kernel_rfl) (by kernel_rfl) (by kernel_rfl) (fun _ _ _ h => h) (Or.inl ⟨by rfl, ?hy28⟩) ?rest28
                  case hy28 => (intro w; go_simp; try with_reducible rfl)
                  try simp only [Act.put, List.setIfInBounds_toArray, List.set_cons_zero, List.set_cons_succ]
                  refine wpAny_take (i := 13) (oi := ({ dst := some 106, op := Op.binOp BinOp.neq 3 (Operand.tmp 96) (Operand.tmp 105) 3, type := 4, pos := "laws.go:1726", after := #[{ on := 3, ground := Ground.data }, { on := 12, ground := Ground.data }], guard := none })) (v := ?v29) rfl (by kernel_rfl) (by kernel_rfl) (by kernel_rfl) (fun _ _ _ h => h) (Or.inl ⟨by rfl, ?hy29⟩) ?rest29
                  case hy29 => (intro w; go_simp; try with_reducible rfl)
                  try simp only [Act.put, List.setIfInBounds_toArray, List.set_cons_zero, List.set_cons_succ]
                  refine wpAny_done (by kernel_rfl) ?_ _
                  go_wp2
                  go_roundw
                  case rel => exact ⟨k + 1, by omega, by go_num, by rw [HP1.out]; try go_num, by first | exact hKr | exact hKr.drew⟩
                  case measure => simp [intOf]; omega
                exact AllReady.nil
              refine AllReady.cons (o := ({ dst := some 104, op := Op.load 3 (Operand.tmp 103), type := 3, pos := "laws.go:1726", after := #[{ on := 10, ground := Ground.data }], guard := none })) rfl (fun K hK => ?_) ?_
              ·
                go_simp
                refine hK _ _ ?_
                clear hK K
                try simp only [Act.put, List.setIfInBounds_toArray, List.set_cons_zero, List.set_cons_succ]
                refine wpAny_take (i := 12) (oi := ({ dst := some 105, op := Op.binOp BinOp.sub 3 (Operand.tmp 100) (Operand.tmp 104) 3, type := 3, pos := "laws.go:1726", after := #[{ on := 7, ground := Ground.data }, { on := 11, ground := Ground.data }], guard := none })) (v := ?v30) rfl (by kernel_rfl) (by kernel_rfl) (by kernel_rfl) (fun _ _ _ h => h) (Or.inl ⟨by rfl, ?hy30⟩) ?rest30
                case hy30 => (intro w; go_simp; try with_reducible rfl)
                try simp only [Act.put, List.setIfInBounds_toArray, List.set_cons_zero, List.set_cons_succ]
                refine wpAny_ready (rs := [3]) (by kernel_rfl) (by simp) ?_
                refine AllReady.cons (o := ({ dst := some 96, op := Op.load 3 (Operand.tmp 95), type := 3, pos := "laws.go:1726", after := #[{ on := 2, ground := Ground.data }], guard := none })) rfl (fun K hK => ?_) ?_
                ·
                  go_simp
                  refine hK _ _ ?_
                  clear hK K
                  try simp only [Act.put, List.setIfInBounds_toArray, List.set_cons_zero, List.set_cons_succ]
                  refine wpAny_take (i := 13) (oi := ({ dst := some 106, op := Op.binOp BinOp.neq 3 (Operand.tmp 96) (Operand.tmp 105) 3, type := 4, pos := "laws.go:1726", after := #[{ on := 3, ground := Ground.data }, { on := 12, ground := Ground.data }], guard := none })) (v := ?v31) rfl (by kernel_rfl) (by kernel_rfl) (by kernel_rfl) (fun _ _ _ h => h) (Or.inl ⟨by rfl, ?hy31⟩) ?rest31
                  case hy31 => (intro w; go_simp; try with_reducible rfl)
                  try simp only [Act.put, List.setIfInBounds_toArray, List.set_cons_zero, List.set_cons_succ]
                  refine wpAny_done (by kernel_rfl) ?_ _
                  go_wp2
                  go_roundw
                  case rel => exact ⟨k + 1, by omega, by go_num, by rw [HP1.out]; try go_num, by first | exact hKr | exact hKr.drew⟩
                  case measure => simp [intOf]; omega
                exact AllReady.nil
              exact AllReady.nil
            refine AllReady.cons (o := ({ dst := some 104, op := Op.load 3 (Operand.tmp 103), type := 3, pos := "laws.go:1726", after := #[{ on := 10, ground := Ground.data }], guard := none })) rfl (fun K hK => ?_) ?_
            ·
              go_simp
              refine hK _ _ ?_
              clear hK K
              try simp only [Act.put, List.setIfInBounds_toArray, List.set_cons_zero, List.set_cons_succ]
              refine wpAny_ready (rs := [3, 7]) (by kernel_rfl) (by simp) ?_
              refine AllReady.cons (o := ({ dst := some 96, op := Op.load 3 (Operand.tmp 95), type := 3, pos := "laws.go:1726", after := #[{ on := 2, ground := Ground.data }], guard := none })) rfl (fun K hK => ?_) ?_
              ·
                go_simp
                refine hK _ _ ?_
                clear hK K
                try simp only [Act.put, List.setIfInBounds_toArray, List.set_cons_zero, List.set_cons_succ]
                refine wpAny_ready (rs := [7]) (by kernel_rfl) (by simp) ?_
                refine AllReady.cons (o := ({ dst := some 100, op := Op.load 3 (Operand.tmp 99), type := 3, pos := "laws.go:1726", after := #[{ on := 6, ground := Ground.data }], guard := none })) rfl (fun K hK => ?_) ?_
                ·
                  go_simp
                  refine hK _ _ ?_
                  clear hK K
                  try simp only [Act.put, List.setIfInBounds_toArray, List.set_cons_zero, List.set_cons_succ]
                  refine wpAny_take (i := 12) (oi := ({ dst := some 105, op := Op.binOp BinOp.sub 3 (Operand.tmp 100) (Operand.tmp 104) 3, type := 3, pos := "laws.go:1726", after := #[{ on := 7, ground := Ground.data }, { on := 11, ground := Ground.data }], guard := none })) (v := ?v32) rfl (by kernel_rfl) (by kernel_rfl) (by kernel_rfl) (fun _ _ _ h => h) (Or.inl ⟨by rfl, ?hy32⟩) ?rest32
                  case hy32 => (intro w; go_simp; try with_reducible rfl)
                  try simp only [Act.put, List.setIfInBounds_toArray, List.set_cons_zero, List.set_cons_succ]
                  refine wpAny_take (i := 13) (oi := ({ dst := some 106, op := Op.binOp BinOp.neq 3 (Operand.tmp 96) (Operand.tmp 105) 3, type := 4, pos := "laws.go:1726", after := #[{ on := 3, ground := Ground.data }, { on := 12, ground := Ground.data }], guard := none })) (v := ?v33) rfl (by kernel_rfl) (by kernel_rfl) (by kernel_rfl) (fun _ _ _ h => h) (Or.inl ⟨by rfl, ?hy33⟩) ?rest33
                  case hy33 => (intro w; go_simp; try with_reducible rfl)
                  try simp only [Act.put, List.setIfInBounds_toArray, List.set_cons_zero, List.set_cons_succ]
                  refine wpAny_done (by kernel_rfl) ?_ _
                  go_wp2
                  go_roundw
                  case rel => exact ⟨k + 1, by omega, by go_num, by rw [HP1.out]; try go_num, by first | exact hKr | exact hKr.drew⟩
                  case measure => simp [intOf]; omega
                exact AllReady.nil
              refine AllReady.cons (o := ({ dst := some 100, op := Op.load 3 (Operand.tmp 99), type := 3, pos := "laws.go:1726", after := #[{ on := 6, ground := Ground.data }], guard := none })) rfl (fun K hK => ?_) ?_
              ·
                go_simp
                refine hK _ _ ?_
                clear hK K
                try simp only [Act.put, List.setIfInBounds_toArray, List.set_cons_zero, List.set_cons_succ]
                refine wpAny_take (i := 12) (oi := ({ dst := some 105, op := Op.binOp BinOp.sub 3 (Operand.tmp 100) (Operand.tmp 104) 3, type := 3, pos := "laws.go:1726", after := #[{ on := 7, ground := Ground.data }, { on := 11, ground := Ground.data }], guard := none })) (v := ?v34) rfl (by kernel_rfl) (by kernel_rfl) (by kernel_rfl) (fun _ _ _ h => h) (Or.inl ⟨by rfl, ?hy34⟩) ?rest34
                case hy34 => (intro w; go_simp; try with_reducible rfl)
                try simp only [Act.put, List.setIfInBounds_toArray, List.set_cons_zero, List.set_cons_succ]
                refine wpAny_ready (rs := [3]) (by kernel_rfl) (by simp) ?_
                refine AllReady.cons (o := ({ dst := some 96, op := Op.load 3 (Operand.tmp 95), type := 3, pos := "laws.go:1726", after := #[{ on := 2, ground := Ground.data }], guard := none })) rfl (fun K hK => ?_) ?_
                ·
                  go_simp
                  refine hK _ _ ?_
                  clear hK K
                  try simp only [Act.put, List.setIfInBounds_toArray, List.set_cons_zero, List.set_cons_succ]
                  refine wpAny_take (i := 13) (oi := ({ dst := some 106, op := Op.binOp BinOp.neq 3 (Operand.tmp 96) (Operand.tmp 105) 3, type := 4, pos := "laws.go:1726", after := #[{ on := 3, ground := Ground.data }, { on := 12, ground := Ground.data }], guard := none })) (v := ?v35) rfl (by kernel_rfl) (by kernel_rfl) (by kernel_rfl) (fun _ _ _ h => h) (Or.inl ⟨by rfl, ?hy35⟩) ?rest35
                  case hy35 => (intro w; go_simp; try with_reducible rfl)
                  try simp only [Act.put, List.setIfInBounds_toArray, List.set_cons_zero, List.set_cons_succ]
                  refine wpAny_done (by kernel_rfl) ?_ _
                  go_wp2
                  go_roundw
                  case rel => exact ⟨k + 1, by omega, by go_num, by rw [HP1.out]; try go_num, by first | exact hKr | exact hKr.drew⟩
                  case measure => simp [intOf]; omega
                exact AllReady.nil
              exact AllReady.nil
            exact AllReady.nil
          · have hd : decide ((k : Int) ∈ cs) = false := decide_eq_false hm
            have hpp : po = pn := HPk.2 hm
            subst hpp
            rw [hd]
            go_wp2_with fail
            refine wp_region_any hmix ?_
            (try (change wpAny _ _ _ _ _ _ _ (World.drew _)))
            refine wpAny_take (i := 0) (oi := ({ dst := some 93, op := Op.move (Operand.tmp 6), type := 23, pos := "laws.go:1726", after := #[], guard := none })) (v := ?v36) rfl (by kernel_rfl) (by kernel_rfl) (by kernel_rfl) (fun _ _ _ h => h) (Or.inl ⟨by rfl, ?hy36⟩) ?rest36
            case hy36 => (intro w; go_simp; try with_reducible rfl)
            try simp only [Act.put, List.setIfInBounds_toArray, List.set_cons_zero, List.set_cons_succ]
            refine wpAny_take (i := 1) (oi := ({ dst := some 94, op := Op.move (Operand.tmp 15), type := 3, pos := "laws.go:1726", after := #[], guard := none })) (v := ?v37) rfl (by kernel_rfl) (by kernel_rfl) (by kernel_rfl) (fun _ _ _ h => h) (Or.inl ⟨by rfl, ?hy37⟩) ?rest37
            case hy37 => (intro w; go_simp; try with_reducible rfl)
            try simp only [Act.put, List.setIfInBounds_toArray, List.set_cons_zero, List.set_cons_succ]
            refine wpAny_take (i := 2) (oi := ({ dst := some 95, op := Op.indexAddr 23 (Operand.tmp 93) (Operand.tmp 94), type := 0, pos := "laws.go:1726", after := #[{ on := 0, ground := Ground.data }, { on := 1, ground := Ground.data }], guard := none })) (v := ?v38) rfl (by kernel_rfl) (by kernel_rfl) (by kernel_rfl) (fun _ _ _ h => h) (Or.inl ⟨by rfl, ?hy38⟩) ?rest38
            case hy38 => (intro w; go_simp; try with_reducible rfl)
            try simp only [Act.put, List.setIfInBounds_toArray, List.set_cons_zero, List.set_cons_succ]
            refine wpAny_take (i := 4) (oi := ({ dst := some 97, op := Op.move (Operand.tmp 3), type := 23, pos := "laws.go:1726", after := #[], guard := none })) (v := ?v39) rfl (by kernel_rfl) (by kernel_rfl) (by kernel_rfl) (fun _ _ _ h => h) (Or.inl ⟨by rfl, ?hy39⟩) ?rest39
            case hy39 => (intro w; go_simp; try with_reducible rfl)
            try simp only [Act.put, List.setIfInBounds_toArray, List.set_cons_zero, List.set_cons_succ]
            refine wpAny_take (i := 5) (oi := ({ dst := some 98, op := Op.move (Operand.tmp 15), type := 3, pos := "laws.go:1726", after := #[], guard := none })) (v := ?v40) rfl (by kernel_rfl) (by kernel_rfl) (by kernel_rfl) (fun _ _ _ h => h) (Or.inl ⟨by rfl, ?hy40⟩) ?rest40
            case hy40 => (intro w; go_simp; try with_reducible rfl)
            try simp only [Act.put, List.setIfInBounds_toArray, List.set_cons_zero, List.set_cons_succ]
            refine wpAny_take (i := 6) (oi := ({ dst := some 99, op := Op.indexAddr 23 (Operand.tmp 97) (Operand.tmp 98), type := 0, pos := "laws.go:1726", after := #[{ on := 4, ground := Ground.data }, { on := 5, ground := Ground.data }], guard := none })) (v := ?v41) rfl (by kernel_rfl) (by kernel_rfl) (by kernel_rfl) (fun _ _ _ h => h) (Or.inl ⟨by rfl, ?hy41⟩) ?rest41
            case hy41 => (intro w; go_simp; try with_reducible rfl)
            try simp only [Act.put, List.setIfInBounds_toArray, List.set_cons_zero, List.set_cons_succ]
            refine wpAny_take (i := 8) (oi := ({ dst := some 101, op := Op.move (Operand.tmp 5), type := 23, pos := "laws.go:1726", after := #[], guard := none })) (v := ?v42) rfl (by kernel_rfl) (by kernel_rfl) (by kernel_rfl) (fun _ _ _ h => h) (Or.inl ⟨by rfl, ?hy42⟩) ?rest42
            case hy42 => (intro w; go_simp; try with_reducible rfl)
            try simp only [Act.put, List.setIfInBounds_toArray, List.set_cons_zero, List.set_cons_succ]
            refine wpAny_take (i := 9) (oi := ({ dst := some 102, op := Op.move (Operand.tmp 14), type := 3, pos := "laws.go:1726", after := #[], guard := none })) (v := ?v43) rfl (by kernel_rfl) (by kernel_rfl) (by kernel_rfl) (fun _ _ _ h => h) (Or.inl ⟨by rfl, ?hy43⟩) ?rest43
            case hy43 => (intro w; go_simp; try with_reducible rfl)
            try simp only [Act.put, List.setIfInBounds_toArray, List.set_cons_zero, List.set_cons_succ]
            refine wpAny_take (i := 10) (oi := ({ dst := some 103, op := Op.indexAddr 23 (Operand.tmp 101) (Operand.tmp 102), type := 0, pos := "laws.go:1726", after := #[{ on := 8, ground := Ground.data }, { on := 9, ground := Ground.data }], guard := none })) (v := ?v44) rfl (by kernel_rfl) (by kernel_rfl) (by kernel_rfl) (fun _ _ _ h => h) (Or.inl ⟨by rfl, ?hy44⟩) ?rest44
            case hy44 => (intro w; go_simp; try with_reducible rfl)
            try simp only [Act.put, List.setIfInBounds_toArray, List.set_cons_zero, List.set_cons_succ]
            refine wpAny_ready (rs := [3, 7, 11]) (by kernel_rfl) (by simp) ?_
            refine AllReady.cons (o := ({ dst := some 96, op := Op.load 3 (Operand.tmp 95), type := 3, pos := "laws.go:1726", after := #[{ on := 2, ground := Ground.data }], guard := none })) rfl (fun K hK => ?_) ?_
            ·
              go_simp
              refine hK _ _ ?_
              clear hK K
              try simp only [Act.put, List.setIfInBounds_toArray, List.set_cons_zero, List.set_cons_succ]
              refine wpAny_ready (rs := [7, 11]) (by kernel_rfl) (by simp) ?_
              refine AllReady.cons (o := ({ dst := some 100, op := Op.load 3 (Operand.tmp 99), type := 3, pos := "laws.go:1726", after := #[{ on := 6, ground := Ground.data }], guard := none })) rfl (fun K hK => ?_) ?_
              ·
                go_simp
                refine hK _ _ ?_
                clear hK K
                try simp only [Act.put, List.setIfInBounds_toArray, List.set_cons_zero, List.set_cons_succ]
                refine wpAny_ready (rs := [11]) (by kernel_rfl) (by simp) ?_
                refine AllReady.cons (o := ({ dst := some 104, op := Op.load 3 (Operand.tmp 103), type := 3, pos := "laws.go:1726", after := #[{ on := 10, ground := Ground.data }], guard := none })) rfl (fun K hK => ?_) ?_
                ·
                  go_simp
                  refine hK _ _ ?_
                  clear hK K
                  try simp only [Act.put, List.setIfInBounds_toArray, List.set_cons_zero, List.set_cons_succ]
                  refine wpAny_take (i := 12) (oi := ({ dst := some 105, op := Op.binOp BinOp.sub 3 (Operand.tmp 100) (Operand.tmp 104) 3, type := 3, pos := "laws.go:1726", after := #[{ on := 7, ground := Ground.data }, { on := 11, ground := Ground.data }], guard := none })) (v := ?v45) rfl (by kernel_rfl) (by kernel_rfl) (by kernel_rfl) (fun _ _ _ h => h) (Or.inl ⟨by rfl, ?hy45⟩) ?rest45
                  case hy45 => (intro w; go_simp; try with_reducible rfl)
                  try simp only [Act.put, List.setIfInBounds_toArray, List.set_cons_zero, List.set_cons_succ]
                  refine wpAny_take (i := 13) (oi := ({ dst := some 106, op := Op.binOp BinOp.neq 3 (Operand.tmp 96) (Operand.tmp 105) 3, type := 4, pos := "laws.go:1726", after := #[{ on := 3, ground := Ground.data }, { on := 12, ground := Ground.data }], guard := none })) (v := ?v46) rfl (by kernel_rfl) (by kernel_rfl) (by kernel_rfl) (fun _ _ _ h => h) (Or.inl ⟨by rfl, ?hy46⟩) ?rest46
                  case hy46 => (intro w; go_simp; try with_reducible rfl)
                  try simp only [Act.put, List.setIfInBounds_toArray, List.set_cons_zero, List.set_cons_succ]
                  refine wpAny_done (by kernel_rfl) ?_ _
                  go_wp2
                  go_roundw
                  case rel => exact ⟨k + 1, by omega, by go_num, by rw [HP1.out]; try go_num, by first | exact hKr | exact hKr.drew⟩
                  case measure => simp [intOf]; omega
                exact AllReady.nil
              refine AllReady.cons (o := ({ dst := some 104, op := Op.load 3 (Operand.tmp 103), type := 3, pos := "laws.go:1726", after := #[{ on := 10, ground := Ground.data }], guard := none })) rfl (fun K hK => ?_) ?_
              ·
                go_simp
                refine hK _ _ ?_
                clear hK K
                try simp only [Act.put, List.setIfInBounds_toArray, List.set_cons_zero, List.set_cons_succ]
                refine wpAny_ready (rs := [7]) (by kernel_rfl) (by simp) ?_
                refine AllReady.cons (o := ({ dst := some 100, op := Op.load 3 (Operand.tmp 99), type := 3, pos := "laws.go:1726", after := #[{ on := 6, ground := Ground.data }], guard := none })) rfl (fun K hK => ?_) ?_
                ·
                  go_simp
                  refine hK _ _ ?_
                  clear hK K
                  try simp only [Act.put, List.setIfInBounds_toArray, List.set_cons_zero, List.set_cons_succ]
                  refine wpAny_take (i := 12) (oi := ({ dst := some 105, op := Op.binOp BinOp.sub 3 (Operand.tmp 100) (Operand.tmp 104) 3, type := 3, pos := "laws.go:1726", after := #[{ on := 7, ground := Ground.data }, { on := 11, ground := Ground.data }], guard := none })) (v := ?v47) rfl (by kernel_rfl) (by kernel_rfl) (by kernel_rfl) (fun _ _ _ h => h) (Or.inl ⟨by rfl, ?hy47⟩) ?rest47
                  case hy47 => (intro w; go_simp; try with_reducible rfl)
                  try simp only [Act.put, List.setIfInBounds_toArray, List.set_cons_zero, List.set_cons_succ]
                  refine wpAny_take (i := 13) (oi := ({ dst := some 106, op := Op.binOp BinOp.neq 3 (Operand.tmp 96) (Operand.tmp 105) 3, type := 4, pos := "laws.go:1726", after := #[{ on := 3, ground := Ground.data }, { on := 12, ground := Ground.data }], guard := none })) (v := ?v48) rfl (by kernel_rfl) (by kernel_rfl) (by kernel_rfl) (fun _ _ _ h => h) (Or.inl ⟨by rfl, ?hy48⟩) ?rest48
                  case hy48 => (intro w; go_simp; try with_reducible rfl)
                  try simp only [Act.put, List.setIfInBounds_toArray, List.set_cons_zero, List.set_cons_succ]
                  refine wpAny_done (by kernel_rfl) ?_ _
                  go_wp2
                  go_roundw
                  case rel => exact ⟨k + 1, by omega, by go_num, by rw [HP1.out]; try go_num, by first | exact hKr | exact hKr.drew⟩
                  case measure => simp [intOf]; omega
                exact AllReady.nil
              exact AllReady.nil
            refine AllReady.cons (o := ({ dst := some 100, op := Op.load 3 (Operand.tmp 99), type := 3, pos := "laws.go:1726", after := #[{ on := 6, ground := Ground.data }], guard := none })) rfl (fun K hK => ?_) ?_
            ·
              go_simp
              refine hK _ _ ?_
              clear hK K
              try simp only [Act.put, List.setIfInBounds_toArray, List.set_cons_zero, List.set_cons_succ]
              refine wpAny_ready (rs := [3, 11]) (by kernel_rfl) (by simp) ?_
              refine AllReady.cons (o := ({ dst := some 96, op := Op.load 3 (Operand.tmp 95), type := 3, pos := "laws.go:1726", after := #[{ on := 2, ground := Ground.data }], guard := none })) rfl (fun K hK => ?_) ?_
              ·
                go_simp
                refine hK _ _ ?_
                clear hK K
                try simp only [Act.put, List.setIfInBounds_toArray, List.set_cons_zero, List.set_cons_succ]
                refine wpAny_ready (rs := [11]) (by kernel_rfl) (by simp) ?_
                refine AllReady.cons (o := ({ dst := some 104, op := Op.load 3 (Operand.tmp 103), type := 3, pos := "laws.go:1726", after := #[{ on := 10, ground := Ground.data }], guard := none })) rfl (fun K hK => ?_) ?_
                ·
                  go_simp
                  refine hK _ _ ?_
                  clear hK K
                  try simp only [Act.put, List.setIfInBounds_toArray, List.set_cons_zero, List.set_cons_succ]
                  refine wpAny_take (i := 12) (oi := ({ dst := some 105, op := Op.binOp BinOp.sub 3 (Operand.tmp 100) (Operand.tmp 104) 3, type := 3, pos := "laws.go:1726", after := #[{ on := 7, ground := Ground.data }, { on := 11, ground := Ground.data }], guard := none })) (v := ?v49) rfl (by kernel_rfl) (by kernel_rfl) (by kernel_rfl) (fun _ _ _ h => h) (Or.inl ⟨by rfl, ?hy49⟩) ?rest49
                  case hy49 => (intro w; go_simp; try with_reducible rfl)
                  try simp only [Act.put, List.setIfInBounds_toArray, List.set_cons_zero, List.set_cons_succ]
                  refine wpAny_take (i := 13) (oi := ({ dst := some 106, op := Op.binOp BinOp.neq 3 (Operand.tmp 96) (Operand.tmp 105) 3, type := 4, pos := "laws.go:1726", after := #[{ on := 3, ground := Ground.data }, { on := 12, ground := Ground.data }], guard := none })) (v := ?v50) rfl (by kernel_rfl) (by kernel_rfl) (by kernel_rfl) (fun _ _ _ h => h) (Or.inl ⟨by rfl, ?hy50⟩) ?rest50
                  case hy50 => (intro w; go_simp; try with_reducible rfl)
                  try simp only [Act.put, List.setIfInBounds_toArray, List.set_cons_zero, List.set_cons_succ]
                  refine wpAny_done (by kernel_rfl) ?_ _
                  go_wp2
                  go_roundw
                  case rel => exact ⟨k + 1, by omega, by go_num, by rw [HP1.out]; try go_num, by first | exact hKr | exact hKr.drew⟩
                  case measure => simp [intOf]; omega
                exact AllReady.nil
              refine AllReady.cons (o := ({ dst := some 104, op := Op.load 3 (Operand.tmp 103), type := 3, pos := "laws.go:1726", after := #[{ on := 10, ground := Ground.data }], guard := none })) rfl (fun K hK => ?_) ?_
              ·
                go_simp
                refine hK _ _ ?_
                clear hK K
                try simp only [Act.put, List.setIfInBounds_toArray, List.set_cons_zero, List.set_cons_succ]
                refine wpAny_take (i := 12) (oi := ({ dst := some 105, op := Op.binOp BinOp.sub 3 (Operand.tmp 100) (Operand.tmp 104) 3, type := 3, pos := "laws.go:1726", after := #[{ on := 7, ground := Ground.data }, { on := 11, ground := Ground.data }], guard := none })) (v := ?v51) rfl (by kernel_rfl) (by kernel_rfl) (by kernel_rfl) (fun _ _ _ h => h) (Or.inl ⟨by rfl, ?hy51⟩) ?rest51
                case hy51 => (intro w; go_simp; try with_reducible rfl)
                try simp only [Act.put, List.setIfInBounds_toArray, List.set_cons_zero, List.set_cons_succ]
                refine wpAny_ready (rs := [3]) (by kernel_rfl) (by simp) ?_
                refine AllReady.cons (o := ({ dst := some 96, op := Op.load 3 (Operand.tmp 95), type := 3, pos := "laws.go:1726", after := #[{ on := 2, ground := Ground.data }], guard := none })) rfl (fun K hK => ?_) ?_
                ·
                  go_simp
                  refine hK _ _ ?_
                  clear hK K
                  try simp only [Act.put, List.setIfInBounds_toArray, List.set_cons_zero, List.set_cons_succ]
                  refine wpAny_take (i := 13) (oi := ({ dst := some 106, op := Op.binOp BinOp.neq 3 (Operand.tmp 96) (Operand.tmp 105) 3, type := 4, pos := "laws.go:1726", after := #[{ on := 3, ground := Ground.data }, { on := 12, ground := Ground.data }], guard := none })) (v := ?v52) rfl (by kernel_rfl) (by kernel_rfl) (by kernel_rfl) (fun _ _ _ h => h) (Or.inl ⟨by rfl, ?hy52⟩) ?rest52
                  case hy52 => (intro w; go_simp; try with_reducible rfl)
                  try simp only [Act.put, List.setIfInBounds_toArray, List.set_cons_zero, List.set_cons_succ]
                  refine wpAny_done (by kernel_rfl) ?_ _
                  go_wp2
                  go_roundw
                  case rel => exact ⟨k + 1, by omega, by go_num, by rw [HP1.out]; try go_num, by first | exact hKr | exact hKr.drew⟩
                  case measure => simp [intOf]; omega
                exact AllReady.nil
              exact AllReady.nil
            refine AllReady.cons (o := ({ dst := some 104, op := Op.load 3 (Operand.tmp 103), type := 3, pos := "laws.go:1726", after := #[{ on := 10, ground := Ground.data }], guard := none })) rfl (fun K hK => ?_) ?_
            ·
              go_simp
              refine hK _ _ ?_
              clear hK K
              try simp only [Act.put, List.setIfInBounds_toArray, List.set_cons_zero, List.set_cons_succ]
              refine wpAny_ready (rs := [3, 7]) (by kernel_rfl) (by simp) ?_
              refine AllReady.cons (o := ({ dst := some 96, op := Op.load 3 (Operand.tmp 95), type := 3, pos := "laws.go:1726", after := #[{ on := 2, ground := Ground.data }], guard := none })) rfl (fun K hK => ?_) ?_
              ·
                go_simp
                refine hK _ _ ?_
                clear hK K
                try simp only [Act.put, List.setIfInBounds_toArray, List.set_cons_zero, List.set_cons_succ]
                refine wpAny_ready (rs := [7]) (by kernel_rfl) (by simp) ?_
                refine AllReady.cons (o := ({ dst := some 100, op := Op.load 3 (Operand.tmp 99), type := 3, pos := "laws.go:1726", after := #[{ on := 6, ground := Ground.data }], guard := none })) rfl (fun K hK => ?_) ?_
                ·
                  go_simp
                  refine hK _ _ ?_
                  clear hK K
                  try simp only [Act.put, List.setIfInBounds_toArray, List.set_cons_zero, List.set_cons_succ]
                  refine wpAny_take (i := 12) (oi := ({ dst := some 105, op := Op.binOp BinOp.sub 3 (Operand.tmp 100) (Operand.tmp 104) 3, type := 3, pos := "laws.go:1726", after := #[{ on := 7, ground := Ground.data }, { on := 11, ground := Ground.data }], guard := none })) (v := ?v53) rfl (by kernel_rfl) (by kernel_rfl) (by kernel_rfl) (fun _ _ _ h => h) (Or.inl ⟨by rfl, ?hy53⟩) ?rest53
                  case hy53 => (intro w; go_simp; try with_reducible rfl)
                  try simp only [Act.put, List.setIfInBounds_toArray, List.set_cons_zero, List.set_cons_succ]
                  refine wpAny_take (i := 13) (oi := ({ dst := some 106, op := Op.binOp BinOp.neq 3 (Operand.tmp 96) (Operand.tmp 105) 3, type := 4, pos := "laws.go:1726", after := #[{ on := 3, ground := Ground.data }, { on := 12, ground := Ground.data }], guard := none })) (v := ?v54) rfl (by kernel_rfl) (by kernel_rfl) (by kernel_rfl) (fun _ _ _ h => h) (Or.inl ⟨by rfl, ?hy54⟩) ?rest54
                  case hy54 => (intro w; go_simp; try with_reducible rfl)
                  try simp only [Act.put, List.setIfInBounds_toArray, List.set_cons_zero, List.set_cons_succ]
                  refine wpAny_done (by kernel_rfl) ?_ _
                  go_wp2
                  go_roundw
                  case rel => exact ⟨k + 1, by omega, by go_num, by rw [HP1.out]; try go_num, by first | exact hKr | exact hKr.drew⟩
                  case measure => simp [intOf]; omega
                exact AllReady.nil
              refine AllReady.cons (o := ({ dst := some 100, op := Op.load 3 (Operand.tmp 99), type := 3, pos := "laws.go:1726", after := #[{ on := 6, ground := Ground.data }], guard := none })) rfl (fun K hK => ?_) ?_
              ·
                go_simp
                refine hK _ _ ?_
                clear hK K
                try simp only [Act.put, List.setIfInBounds_toArray, List.set_cons_zero, List.set_cons_succ]
                refine wpAny_take (i := 12) (oi := ({ dst := some 105, op := Op.binOp BinOp.sub 3 (Operand.tmp 100) (Operand.tmp 104) 3, type := 3, pos := "laws.go:1726", after := #[{ on := 7, ground := Ground.data }, { on := 11, ground := Ground.data }], guard := none })) (v := ?v55) rfl (by kernel_rfl) (by kernel_rfl) (by kernel_rfl) (fun _ _ _ h => h) (Or.inl ⟨by rfl, ?hy55⟩) ?rest55
                case hy55 => (intro w; go_simp; try with_reducible rfl)
                try simp only [Act.put, List.setIfInBounds_toArray, List.set_cons_zero, List.set_cons_succ]
                refine wpAny_ready (rs := [3]) (by kernel_rfl) (by simp) ?_
                refine AllReady.cons (o := ({ dst := some 96, op := Op.load 3 (Operand.tmp 95), type := 3, pos := "laws.go:1726", after := #[{ on := 2, ground := Ground.data }], guard := none })) rfl (fun K hK => ?_) ?_
                ·
                  go_simp
                  refine hK _ _ ?_
                  clear hK K
                  try simp only [Act.put, List.setIfInBounds_toArray, List.set_cons_zero, List.set_cons_succ]
                  refine wpAny_take (i := 13) (oi := ({ dst := some 106, op := Op.binOp BinOp.neq 3 (Operand.tmp 96) (Operand.tmp 105) 3, type := 4, pos := "laws.go:1726", after := #[{ on := 3, ground := Ground.data }, { on := 12, ground := Ground.data }], guard := none })) (v := ?v56) rfl (by kernel_rfl) (by kernel_rfl) (by kernel_rfl) (fun _ _ _ h => h) (Or.inl ⟨by rfl, ?hy56⟩) ?rest56
                  case hy56 => (intro w; go_simp; try with_reducible rfl)
                  try simp only [Act.put, List.setIfInBounds_toArray, List.set_cons_zero, List.set_cons_succ]
                  refine wpAny_done (by kernel_rfl) ?_ _
                  go_wp2
                  go_roundw
                  case rel => exact ⟨k + 1, by omega, by go_num, by rw [HP1.out]; try go_num, by first | exact hKr | exact hKr.drew⟩
                  case measure => simp [intOf]; omega
                exact AllReady.nil
              exact AllReady.nil
            exact AllReady.nil
        · obtain rfl : k = zs.length := by omega
          go_wp2_with fail
          refine (sI_eq p6 a q6 ca zs _ (hF6'.keep hKr) (HLz.out _ (K6.trans hKr)) (by omega)).mono ?_
          rintro e w7 ⟨rfl, k7⟩
          go_wp2
          go_ret
          exact ⟨rfl, (KK.trans hKr).trans k7⟩
end Go.Proofs.Ytehjjoalnfpgdaa
