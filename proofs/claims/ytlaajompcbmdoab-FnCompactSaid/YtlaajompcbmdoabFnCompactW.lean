/- A compact store tells the same in every version. -/
import Derived.Test.YtlaajompcbmdoabDrVe
import Derived.Test.YtlaajompcbmdoabDrSa
import Derived.Test.YtlaajompcbmdoabVp
import Derived.Test.YtlaajompcbmdoabVc
import Derived.Test.YtlaajompcbmdoabVh2
import Derived.Test.YtlaajompcbmdoabFr
import Derived.Deep.RegionHeld3
import Derived.Outline
import Derived.LoopTactic
namespace Go.Proofs.Ytlaajompcbmdoab
open Go.RowKit
set_option linter.unusedVariables false

set_option maxRecDepth 100000 in
set_option maxHeartbeats 3200000 in
theorem walk_FnCompact (a0 : Option Addr) (len0 cap0 : Nat) (z0 : List Int) (w : World) (w0 : IsRow .u8 w a0 len0 cap0 z0) :
    Calls Try.prog 10 #[.slice a0 len0 cap0] w fun e w' => e = .returned (.bool true) ∧ Below w.heap.size w w' := by
  have ha := code_of_row w0
  obtain ⟨hl0, hm0⟩ := ha.1
  unfold maxLen at hm0
  clear w0
  by_cases h : len0 ≤ 1048576
  case' neg =>
    have hd : decide (1048576 < (len0 : Int)) = true := by simp; omega
    go_enter Try.func10, Try.ntmps10
    go_wp2
    go_ret
    exact ⟨rfl, Below.refl _ _⟩
  have hd : decide (1048576 < (len0 : Int)) = false := by simp; omega
  go_enter Try.func10, Try.ntmps10
  go_wp2_with fail
  refine (drawCompactOf a0 len0 cap0 _ ha).mono ?_
  rintro e w1 ⟨gg, c, rs, rfl, hl, hcl, hF, k1⟩
  have hL1 := hF.rs
  clear ha hF
  have hle := cpL_len rs
  have HSV := Lib.hid (fun W (k : Keep w1 W) => sv_spec _ c rs W (hL1.keep k) (by omega))
  go_wp2_with fail
  refine (cp_impl _ c rs _ hL1 (by omega) hcl).mono ?_
  rintro e w2 ⟨p, q, rfl, hq2, hF2, k2⟩
  have K2 : Keep w1 w2 := k2
  go_wp2_with fail
  refine (cp_spec _ c rs _ (hL1.keep K2) (by omega) hcl).mono ?_
  rintro e w3 ⟨p3, q3, rfl, hq3, hF3, k3⟩
  have K3 : Keep w1 w3 := K2.trans k3
  have hO := hF2.rs.keep k3
  have hW := hF3.rs
  clear hF2 hF3 k2 k3 K2
  go_wp2_with fail
  refine (sR_same p p3 q q3 (cpL rs) _ hO hW (by omega)).mono ?_
  rintro e w4 ⟨rfl, k4⟩
  rcases Bool.eq_false_or_eq_true (stB rs) with hs | hs
  case' inr =>
    rw [hs] at HSV
    clear hs
    go_wp2_with fail
    refine (HSV.out _ (K3.trans k4)).mono ?_
    rintro e w5 ⟨rfl, k5⟩
    go_wp2_with fail
    refine (sR_same p p3 q q3 (cpL rs) _ ((hO.keep k4).keep k5) ((hW.keep k4).keep k5) (by omega)).mono ?_
    rintro e w6 ⟨rfl, k6⟩
    go_wp2
    go_ret
    exact ⟨rfl, (((k1.trans K3).trans k4).trans k5).trans k6⟩
  rw [hs] at HSV
  go_wp2_with fail
  refine (HSV.out _ (K3.trans k4)).mono ?_
  rintro e w5 ⟨rfl, k5⟩
  have K5 : Keep w1 w5 := (K3.trans k4).trans k5
  have hO5 := (hO.keep k4).keep k5
  clear hO hW K3 k4 k5 HSV
  have hcs := cp_st hs
  have HCs := Lib.hid hcs
  have HV1 := Lib.hid (fun s d t W (hk : Keep w5 W) => by
    have h1 := vof_any p q (cpL rs) ((cpL rs).length : Nat) s d t W (hO5.keep hk) (by omega) hq2
    rw [cp_val hs s d t] at h1
    exact h1)
  have HV2 := Lib.hid (fun s d t W (hk : Keep w5 W) => vof_any _ c rs (rs.length : Nat) s d t W (hL1.keep (K5.trans hk)) (by omega) hcl)
  have HH1 := Lib.hid (fun s d t W (hk : Keep w5 W) => by
    have h1 := hs_impl p q (cpL rs) s d t W (hO5.keep hk) (by omega)
    rw [cp_history hs s d t] at h1
    exact h1)
  have HH2 := Lib.hid (fun s d t W (hk : Keep w5 W) => hs_impl _ c rs s d t W (hL1.keep (K5.trans hk)) (by omega))
  have HLen := Lib.hid (fun s d t => show (hsL rs s d t).length ≤ 40 by rw [hsL_yes hs]; exact Nat.le_trans (hsN_len rs s d t _) (stB_facts hs).2)
  have HSV1 := Lib.hid (fun W (hk : Keep w5 W) => sv_impl p q (cpL rs) W (hO5.keep hk) (by omega))
  rw [hcs] at HSV1
  have hcl2 : (cpL rs).length ≤ rs.length := by rw [cpL_yes hs]; exact cpN_len rs _
  have HL1 := Lib.hid (hL1.keep K5)
  clear hcs hs hO5 hL1
  generalize cpL rs = L at *
  go_wp2_with fail
  go_loopw [6] (fun i wr => ∃ k : Nat, k ≤ rs.length ∧ i = .int .i64 k ∧ Keep w5 wr) (fun i _ => rs.length - (intOf i).toNat)
  case atStart => exact ⟨0, by omega, rfl, Keep.refl w5⟩
  case round =>
    obtain ⟨k, hk, rfl, hK⟩ := hrel
    by_cases hlt : k < rs.length
    · obtain ⟨b, off, hbe, hb, hcc⟩ := (HL1.out.keep hK).at_ hlt
      injection hbe with hbe
      injection hbe with e1 e2
      subst e1
      subst e2
      obtain ⟨c0, c1, c2, c3⟩ := hcc
      generalize rS (rs.getD k r0) = s at c0
      generalize rD (rs.getD k r0) = d at c1
      generalize rK (rs.getD k r0) = t at c2
      clear c3
      rw [Nat.zero_add] at c0 c1 c2
      go_wp2_with fail
      have HSc : ∀ W, Keep wr W → (W.cell? ⟨gg, k * 4, none⟩ = some (.int .i64 s) ∧ W.cell? ⟨gg, k * 4 + 1, none⟩ = some (.int .i64 d) ∧ W.cell? ⟨gg, k * 4 + 2, none⟩ = some (.int .i64 t)) := fun W kW => ⟨kW.cell c0, kW.cell c1, kW.cell c2⟩
      go_region_held3 (fun w' => w'.cell? ⟨gg, k * 4, none⟩ = some (.int .i64 s) ∧ w'.cell? ⟨gg, k * 4 + 1, none⟩ = some (.int .i64 d) ∧ w'.cell? ⟨gg, k * 4 + 2, none⟩ = some (.int .i64 t)) ((first | exact HSc _ ((Keep.refl _).drewN 1) | exact HSc _ (((Keep.refl _).drewN 1).alloc _))) (fail)
      obtain ⟨W0, hW0⟩ : ∃ W0, W0 = (wr.alloc (.cells #[.int .i64 s, .int .i64 d, .int .i64 t] 30)).drew := ⟨_, rfl⟩
      have KW0 : Keep w5 W0 := by rw [hW0]; exact (hK.alloc _).drew
      have p0 : W0.cell? ⟨wr.heap.size, 0, none⟩ = some (.int .i64 s) := by rw [hW0]; exact ((Keep.refl (wr.alloc _)).drew).cell (World.cell?_alloc_new wr _ _ 0)
      have p1 : W0.cell? ⟨wr.heap.size, 1, none⟩ = some (.int .i64 d) := by rw [hW0]; exact ((Keep.refl (wr.alloc _)).drew).cell (World.cell?_alloc_new wr _ _ 1)
      have p2 : W0.cell? ⟨wr.heap.size, 2, none⟩ = some (.int .i64 t) := by rw [hW0]; exact ((Keep.refl (wr.alloc _)).drew).cell (World.cell?_alloc_new wr _ _ 2)
      have HSa : ∀ W, Keep W0 W → (W.cell? ⟨wr.heap.size, 0, none⟩ = some (.int .i64 s) ∧ W.cell? ⟨wr.heap.size, 1, none⟩ = some (.int .i64 d) ∧ W.cell? ⟨wr.heap.size, 2, none⟩ = some (.int .i64 t)) := fun W kW => ⟨kW.cell p0, kW.cell p1, kW.cell p2⟩
      clear c0 c1 c2 HSc
      go_wp2_with fail
      rw [← hW0]
      clear hW0
      refine wp_region_held_drew (S := (fun w' => w'.cell? ⟨wr.heap.size, 0, none⟩ = some (.int .i64 s) ∧ w'.cell? ⟨wr.heap.size, 1, none⟩ = some (.int .i64 d) ∧ w'.cell? ⟨wr.heap.size, 2, none⟩ = some (.int .i64 t))) (by kernel_rfl) (HSa _ ((Keep.refl W0).drewN 1)) (fun hHeld => ?_)
      refine wpAnyH_take (i := 0) (oi := ({ dst := some 51, op := Op.move (Operand.tmp 4), type := 28, pos := "laws.go:3104", after := #[], guard := none })) (v := ?v1) rfl (by kernel_rfl) (by kernel_rfl) (by kernel_rfl) (fun _ _ _ h => h) (Or.inl ⟨by rfl, ?hy1⟩) hHeld ?rest1
      case hy1 => (intro w' hSw; (try dsimp only at hSw); go_split_ands; go_simp; try with_reducible rfl)
      try simp only [Act.put, List.setIfInBounds_toArray, List.set_cons_zero, List.set_cons_succ]
      refine wpAnyH_take (i := 1) (oi := ({ dst := some 52, op := Op.move (Operand.tmp 4), type := 28, pos := "laws.go:3104", after := #[], guard := none })) (v := ?v2) rfl (by kernel_rfl) (by kernel_rfl) (by kernel_rfl) (fun _ _ _ h => h) (Or.inl ⟨by rfl, ?hy2⟩) hHeld ?rest2
      case hy2 => (intro w' hSw; (try dsimp only at hSw); go_split_ands; go_simp; try with_reducible rfl)
      try simp only [Act.put, List.setIfInBounds_toArray, List.set_cons_zero, List.set_cons_succ]
      refine wpAnyH_take (i := 2) (oi := ({ dst := some 53, op := Op.call { callee := Callee.builtin Builtin.len, args := #[Operand.tmp 52], argTypes := #[28] }, type := 3, pos := "laws.go:3104", after := #[{ on := 1, ground := Ground.data }], guard := none })) (v := ?v3) rfl (by kernel_rfl) (by kernel_rfl) (by kernel_rfl) (fun _ _ _ h => h) (Or.inl ⟨by rfl, ?hy3⟩) hHeld ?rest3
      case hy3 => (intro w' hSw; (try dsimp only at hSw); go_split_ands; go_simp; try with_reducible rfl)
      try simp only [Act.put, List.setIfInBounds_toArray, List.set_cons_zero, List.set_cons_succ]
      refine wpAnyH_take (i := 3) (oi := ({ dst := some 54, op := Op.load 30 (Operand.tmp 7), type := 30, pos := "laws.go:3104", after := #[], guard := none })) (v := ?v4) rfl (by kernel_rfl) (by kernel_rfl) (by kernel_rfl) (fun _ _ _ h => h) (Or.inl ⟨by rfl, ?hy4⟩) hHeld ?rest4
      case hy4 => (intro w' hSw; (try dsimp only at hSw); go_split_ands; go_simp; try with_reducible rfl)
      try simp only [Act.put, List.setIfInBounds_toArray, List.set_cons_zero, List.set_cons_succ]
      refine wpAnyH_take (i := 5) (oi := ({ dst := some 56, op := Op.move (Operand.tmp 3), type := 28, pos := "laws.go:3104", after := #[], guard := none })) (v := ?v5) rfl (by kernel_rfl) (by kernel_rfl) (by kernel_rfl) (fun _ _ _ h => h) (Or.inl ⟨by rfl, ?hy5⟩) hHeld ?rest5
      case hy5 => (intro w' hSw; (try dsimp only at hSw); go_split_ands; go_simp; try with_reducible rfl)
      try simp only [Act.put, List.setIfInBounds_toArray, List.set_cons_zero, List.set_cons_succ]
      refine wpAnyH_take (i := 6) (oi := ({ dst := some 57, op := Op.move (Operand.tmp 3), type := 28, pos := "laws.go:3104", after := #[], guard := none })) (v := ?v6) rfl (by kernel_rfl) (by kernel_rfl) (by kernel_rfl) (fun _ _ _ h => h) (Or.inl ⟨by rfl, ?hy6⟩) hHeld ?rest6
      case hy6 => (intro w' hSw; (try dsimp only at hSw); go_split_ands; go_simp; try with_reducible rfl)
      try simp only [Act.put, List.setIfInBounds_toArray, List.set_cons_zero, List.set_cons_succ]
      refine wpAnyH_take (i := 7) (oi := ({ dst := some 58, op := Op.call { callee := Callee.builtin Builtin.len, args := #[Operand.tmp 57], argTypes := #[28] }, type := 3, pos := "laws.go:3104", after := #[{ on := 6, ground := Ground.data }], guard := none })) (v := ?v7) rfl (by kernel_rfl) (by kernel_rfl) (by kernel_rfl) (fun _ _ _ h => h) (Or.inl ⟨by rfl, ?hy7⟩) hHeld ?rest7
      case hy7 => (intro w' hSw; (try dsimp only at hSw); go_split_ands; go_simp; try with_reducible rfl)
      try simp only [Act.put, List.setIfInBounds_toArray, List.set_cons_zero, List.set_cons_succ]
      refine wpAnyH_take (i := 8) (oi := ({ dst := some 59, op := Op.load 30 (Operand.tmp 7), type := 30, pos := "laws.go:3104", after := #[], guard := none })) (v := ?v8) rfl (by kernel_rfl) (by kernel_rfl) (by kernel_rfl) (fun _ _ _ h => h) (Or.inl ⟨by rfl, ?hy8⟩) hHeld ?rest8
      case hy8 => (intro w' hSw; (try dsimp only at hSw); go_split_ands; go_simp; try with_reducible rfl)
      try simp only [Act.put, List.setIfInBounds_toArray, List.set_cons_zero, List.set_cons_succ]
      refine wpAnyH_ready (rs := [4]) (by kernel_rfl) (by simp) ?_
      refine AllReadyH.cons (o := ({ dst := some 55, op := Op.call { callee := Callee.value (Operand.func 28), args := #[Operand.tmp 51, Operand.tmp 53, Operand.tmp 54], argTypes := #[28, 3, 30] }, type := 3, pos := "laws.go:3104", after := #[{ on := 0, ground := Ground.data }, { on := 2, ground := Ground.data }, { on := 3, ground := Ground.data }], guard := none })) rfl (fun K hK => ?_) ?_
      ·
        go_simp
        go_at_call 28; refine (HV1.out s d t _ (KW0.trans ((Keep.refl W0).drewN 1))).mono ?_; rintro e wA ⟨rfl, kA'⟩
        try go_wp2_with fail
        have kA : Keep W0 wA := Keep.trans ((Keep.refl W0).drewN 1) kA'
        refine hK.out _ _ (HSa _ kA) (fun hHeld => ?_)
        clear hK K
        try simp only [Act.put, List.setIfInBounds_toArray, List.set_cons_zero, List.set_cons_succ]
        refine wpAnyH_ready (rs := [9]) (by kernel_rfl) (by simp) ?_
        refine AllReadyH.cons (o := ({ dst := some 60, op := Op.call { callee := Callee.value (Operand.func 28), args := #[Operand.tmp 56, Operand.tmp 58, Operand.tmp 59], argTypes := #[28, 3, 30] }, type := 3, pos := "laws.go:3104", after := #[{ on := 5, ground := Ground.data }, { on := 7, ground := Ground.data }, { on := 8, ground := Ground.data }, { on := 4, ground := Ground.chain }], guard := none })) rfl (fun K hK => ?_) ?_
        ·
          go_simp
          go_at_call 28; refine (HV2.out s d t _ (KW0.trans kA)).mono ?_; rintro e wB ⟨rfl, kB'⟩
          try go_wp2_with fail
          have kB : Keep W0 wB := Keep.trans kA kB'
          refine hK.out _ _ (HSa _ kB) (fun hHeld => ?_)
          clear hK K
          try simp only [Act.put, List.setIfInBounds_toArray, List.set_cons_zero, List.set_cons_succ]
          refine wpAnyH_take (i := 10) (oi := ({ dst := some 61, op := Op.binOp BinOp.neq 3 (Operand.tmp 55) (Operand.tmp 60) 3, type := 4, pos := "laws.go:3104", after := #[{ on := 4, ground := Ground.data }, { on := 9, ground := Ground.data }], guard := none })) (v := ?v9) rfl (by kernel_rfl) (by kernel_rfl) (by kernel_rfl) (fun _ _ _ h => h) (Or.inl ⟨by rfl, ?hy9⟩) hHeld ?rest9
          case hy9 => (intro w' hSw; (try dsimp only at hSw); go_split_ands; go_simp; try with_reducible rfl)
          try simp only [Act.put, List.setIfInBounds_toArray, List.set_cons_zero, List.set_cons_succ]
          refine wpAnyH_take (i := 11) (oi := ({ dst := some 62, op := Op.move (Operand.tmp 61), type := 4, pos := "laws.go:3104", after := #[{ on := 10, ground := Ground.data }, { on := 9, ground := Ground.chain }], guard := none })) (v := ?v10) rfl (by kernel_rfl) (by kernel_rfl) (by kernel_rfl) (fun _ _ _ h => h) (Or.inl ⟨by rfl, ?hy10⟩) hHeld ?rest10
          case hy10 => (intro w' hSw; (try dsimp only at hSw); go_split_ands; go_simp; try with_reducible rfl)
          try simp only [Act.put, List.setIfInBounds_toArray, List.set_cons_zero, List.set_cons_succ]
          refine wpAnyH_take (i := 12) (oi := ({ dst := some 63, op := Op.move (Operand.tmp 4), type := 28, pos := "laws.go:3104", after := #[{ on := 11, ground := Ground.guard }], guard := some (11, false) })) (v := ?v11) rfl (by kernel_rfl) (by kernel_rfl) (by kernel_rfl) (fun _ _ _ h => h) (Or.inl ⟨by rfl, ?hy11⟩) hHeld ?rest11
          case hy11 => (intro w' hSw; (try dsimp only at hSw); go_split_ands; go_simp; try with_reducible rfl)
          try simp only [Act.put, List.setIfInBounds_toArray, List.set_cons_zero, List.set_cons_succ]
          refine wpAnyH_take (i := 13) (oi := ({ dst := some 64, op := Op.load 30 (Operand.tmp 7), type := 30, pos := "laws.go:3104", after := #[{ on := 11, ground := Ground.guard }], guard := some (11, false) })) (v := ?v12) rfl (by kernel_rfl) (by kernel_rfl) (by kernel_rfl) (fun _ _ _ h => h) (Or.inl ⟨by rfl, ?hy12⟩) hHeld ?rest12
          case hy12 => (intro w' hSw; (try dsimp only at hSw); go_split_ands; go_simp; try with_reducible rfl)
          try simp only [Act.put, List.setIfInBounds_toArray, List.set_cons_zero, List.set_cons_succ]
          refine wpAnyH_take (i := 15) (oi := ({ dst := some 66, op := Op.move (Operand.tmp 3), type := 28, pos := "laws.go:3104", after := #[{ on := 11, ground := Ground.guard }], guard := some (11, false) })) (v := ?v13) rfl (by kernel_rfl) (by kernel_rfl) (by kernel_rfl) (fun _ _ _ h => h) (Or.inl ⟨by rfl, ?hy13⟩) hHeld ?rest13
          case hy13 => (intro w' hSw; (try dsimp only at hSw); go_split_ands; go_simp; try with_reducible rfl)
          try simp only [Act.put, List.setIfInBounds_toArray, List.set_cons_zero, List.set_cons_succ]
          refine wpAnyH_take (i := 16) (oi := ({ dst := some 67, op := Op.load 30 (Operand.tmp 7), type := 30, pos := "laws.go:3104", after := #[{ on := 11, ground := Ground.guard }], guard := some (11, false) })) (v := ?v14) rfl (by kernel_rfl) (by kernel_rfl) (by kernel_rfl) (fun _ _ _ h => h) (Or.inl ⟨by rfl, ?hy14⟩) hHeld ?rest14
          case hy14 => (intro w' hSw; (try dsimp only at hSw); go_split_ands; go_simp; try with_reducible rfl)
          try simp only [Act.put, List.setIfInBounds_toArray, List.set_cons_zero, List.set_cons_succ]
          refine wpAnyH_ready (rs := [14]) (by kernel_rfl) (by simp) ?_
          refine AllReadyH.cons (o := ({ dst := some 65, op := Op.call { callee := Callee.value (Operand.func 19), args := #[Operand.tmp 63, Operand.tmp 64], argTypes := #[28, 30] }, type := 26, pos := "laws.go:3104", after := #[{ on := 12, ground := Ground.data }, { on := 13, ground := Ground.data }, { on := 11, ground := Ground.chain }, { on := 11, ground := Ground.guard }], guard := some (11, false) })) rfl (fun K hK => ?_) ?_
          ·
            go_simp
            go_at_call 19; refine (HH1.out s d t _ (KW0.trans kB)).mono ?_; rintro e wC ⟨pC, qC, rfl, hFC, kC'⟩
            try go_wp2_with fail
            have kC : Keep W0 wC := Keep.trans kB kC'
            refine hK.out _ _ (HSa _ kC) (fun hHeld => ?_)
            clear hK K
            try simp only [Act.put, List.setIfInBounds_toArray, List.set_cons_zero, List.set_cons_succ]
            refine wpAnyH_ready (rs := [17]) (by kernel_rfl) (by simp) ?_
            refine AllReadyH.cons (o := ({ dst := some 68, op := Op.call { callee := Callee.value (Operand.func 19), args := #[Operand.tmp 66, Operand.tmp 67], argTypes := #[28, 30] }, type := 26, pos := "laws.go:3104", after := #[{ on := 15, ground := Ground.data }, { on := 16, ground := Ground.data }, { on := 14, ground := Ground.chain }, { on := 11, ground := Ground.guard }], guard := some (11, false) })) rfl (fun K hK => ?_) ?_
            ·
              go_simp
              go_at_call 19; refine (HH2.out s d t _ (KW0.trans kC)).mono ?_; rintro e wD ⟨pD, qD, rfl, hFD, kD'⟩
              try go_wp2_with fail
              have kD : Keep W0 wD := Keep.trans kC kD'
              refine hK.out _ _ (HSa _ kD) (fun hHeld => ?_)
              clear hK K
              try simp only [Act.put, List.setIfInBounds_toArray, List.set_cons_zero, List.set_cons_succ]
              refine wpAnyH_ready (rs := [18]) (by kernel_rfl) (by simp) ?_
              refine AllReadyH.cons (o := ({ dst := some 69, op := Op.call { callee := Callee.value (Operand.func 26), args := #[Operand.tmp 65, Operand.tmp 68], argTypes := #[26, 26] }, type := 4, pos := "laws.go:3104", after := #[{ on := 14, ground := Ground.data }, { on := 17, ground := Ground.data }, { on := 17, ground := Ground.chain }, { on := 11, ground := Ground.guard }], guard := some (11, false) })) rfl (fun K hK => ?_) ?_
              ·
                go_simp
                go_at_call 26; refine (sI_same pC pD qC qD (hsL rs s d t) _ (hFC.ls.keep kD') hFD.ls (by have := HLen.out s d t; omega)).mono ?_; rintro e wE ⟨rfl, kE'⟩
                try go_wp2_with fail
                have kE : Keep W0 wE := Keep.trans kD kE'
                refine hK.out _ _ (HSa _ kE) (fun hHeld => ?_)
                clear hK K
                try simp only [Act.put, List.setIfInBounds_toArray, List.set_cons_zero, List.set_cons_succ]
                refine wpAnyH_take (i := 19) (oi := ({ dst := some 70, op := Op.unOp UnOp.not 4 (Operand.tmp 69), type := 4, pos := "laws.go:3104", after := #[{ on := 18, ground := Ground.data }, { on := 11, ground := Ground.guard }], guard := some (11, false) })) (v := ?v15) rfl (by kernel_rfl) (by kernel_rfl) (by kernel_rfl) (fun _ _ _ h => h) (Or.inl ⟨by rfl, ?hy15⟩) hHeld ?rest15
                case hy15 => (intro w' hSw; (try dsimp only at hSw); go_split_ands; go_simp; try with_reducible rfl)
                try simp only [Act.put, List.setIfInBounds_toArray, List.set_cons_zero, List.set_cons_succ]
                refine wpAnyH_take (i := 20) (oi := ({ dst := some 71, op := Op.pick (Operand.tmp 62) (Operand.const (Value.bool true)) (Operand.tmp 70), type := 4, pos := "laws.go:3104", after := #[{ on := 11, ground := Ground.data }, { on := 19, ground := Ground.data }], guard := none })) (v := ?v16) rfl (by kernel_rfl) (by kernel_rfl) (by kernel_rfl) (fun _ _ _ h => h) (Or.inl ⟨by rfl, ?hy16⟩) hHeld ?rest16
                case hy16 => (intro w' hSw; (try dsimp only at hSw); go_split_ands; go_simp; try with_reducible rfl)
                try simp only [Act.put, List.setIfInBounds_toArray, List.set_cons_zero, List.set_cons_succ]
                refine wpAnyH_done (by kernel_rfl) ?_ _
                clear HSa
                go_wp2
                go_roundw
                case rel => exact ⟨k + 1, by omega, by go_num, KW0.trans kE⟩
                case measure => simp [intOf]; omega
              exact AllReadyH.nil
            exact AllReadyH.nil
          exact AllReadyH.nil
        exact AllReadyH.nil
      exact AllReadyH.nil
    · obtain rfl : k = rs.length := by omega
      have hdl : decide ((L.length : Int) ≤ (rs.length : Int)) = true := by simp; omega
      go_wp2_with fail
      refine (HSV1.out _ hK).mono ?_
      rintro e w8 ⟨rfl, k8⟩
      go_wp2
      go_ret
      exact ⟨retB (by first | rfl | exact hdl), ((k1.trans K5).trans hK).trans k8⟩
end Go.Proofs.Ytlaajompcbmdoab
