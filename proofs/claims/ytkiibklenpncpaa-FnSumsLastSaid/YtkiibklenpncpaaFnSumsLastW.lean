/- P131: the last sum. -/
import Derived.Test.YtkiibklenpncpaaSo2
import Derived.Test.YtkiibklenpncpaaSsm
import Derived.Test.YtkiibklenpncpaaDrNo
import Derived.Test.YtkiibklenpncpaaSu
import Derived.LoopTactic
import Derived.Deep.QuietTactic
import Derived.BigQuiet
import Derived.Deep.RegionLaw
import Derived.Deep.RegionWith
import Derived.IntWalk
namespace Go.Proofs.Ytkiibklenpncpaa
open Go.RowKit
set_option linter.unusedVariables false

theorem knl_lenS (zs : List Int) : (knl zs).length ≤ zs.length := by
  unfold knl; exact List.length_filter_le _ _
theorem knl_bdS {zs : List Int} (h : sqB zs = true) {x : Int} (hx : x ∈ knl zs) : -12000 ≤ x ∧ x ≤ 12000 := by
  have hx' : x ∈ zs := by unfold knl at hx; exact (List.mem_filter.1 hx).1
  obtain ⟨i, hi, rfl⟩ := List.getElem_of_mem hx'
  have := sq_at h hi
  rw [show zs.getD i 0 = zs[i] by simp [List.getD_eq_getElem?_getD, hi]] at this
  omega
set_option maxRecDepth 100000 in
set_option maxHeartbeats 6400000 in
theorem walk_FnSumsLast (a0 : Option Addr) (len0 cap0 : Nat) (z0 : List Int) (w : World) (w0 : IsRow .u8 w a0 len0 cap0 z0) :
    Calls Try.prog 5 #[.slice a0 len0 cap0] w fun e w' => e = .returned (.bool true) ∧ Below w.heap.size w w' := by
  have ha := code_of_row w0
  obtain ⟨hl0, hm0⟩ := ha.1
  unfold maxLen at hm0
  clear w0
  by_cases h : len0 ≤ 1048576
  case' neg =>
    have hd : decide (1048576 < (len0 : Int)) = true := by simp; omega
    go_enter Try.func5, Try.ntmps5
    go_wp2
    go_ret
    exact ⟨rfl, Below.refl _ _⟩
  have hd : decide (1048576 < (len0 : Int)) = false := by simp; omega
  go_enter Try.func5, Try.ntmps5
  go_wp2_with fail
  refine (drawSumsOf a0 len0 cap0 _ ha).mono ?_
  rintro e w1 ⟨a, c, zs, rfl, hl13, hcap, hB, hL1, k1⟩
  clear ha hB
  go_wp2_with fail
  refine (su_impl a c zs _ hL1 (by omega)).mono ?_
  rintro e w2 ⟨p, q, rfl, hpq, hF2, k2⟩
  go_wp2_with fail
  refine (su_spec a c zs _ (hL1.keep k2) (by omega)).mono ?_
  rintro e w3 ⟨p3, q3, rfl, hpq3, hF3, k3⟩
  have kk : Keep w w3 := (k1.trans k2).trans k3
  have hL := (hL1.keep k2).keep k3
  have hO := hF2.rr.keep k3
  have hW := hF3.rr
  clear hF2 hF3 hL1 hpq hpq3
  rcases Bool.eq_false_or_eq_true (sqB zs) with hs | hs
  case' inr =>
    have hlen := suL_len zs
    generalize suL zs = L at *
    rw [hs]
    clear hs
    go_wp2_with fail
    refine (sS_eq p p3 q q3 L _ hO hW (by omega)).mono ?_
    rintro e w5 ⟨rfl, k5⟩
    go_wp2_with fail
    refine (sS_eq p p3 q q3 L _ (hO.keep k5) (hW.keep k5) (by omega)).mono ?_
    rintro e w7 ⟨rfl, k7⟩
    go_wp2
    go_ret
    exact ⟨rfl, (kk.trans k5).trans k7⟩
  obtain ⟨hl1, hl12⟩ := (sq_facts hs).2
  have HG : Hid (∀ k, k ≤ zs.length → (suL zs).getD k u0 = su zs k) := Lib.hid (fun k hk => by rw [suL_yes hs]; exact sul_at hk)
  have HLn : Hid ((suL zs).length = zs.length + 1) := Lib.hid (by rw [suL_yes hs, sul_len])
  have HSl : Hid (su zs zs.length = (isum (knl zs), (knN zs zs.length : Int))) := Lib.hid (by unfold su; rw [List.take_length])
  have HKb : Hid (∀ x ∈ knl zs, -12000 ≤ x ∧ x ≤ 12000) := Lib.hid (fun x hx => knl_bdS hs hx)
  have hkl := knl_lenS zs
  have HSk := Lib.hid (sk_yes hs)
  rw [hs]
  generalize suL zs = L at *
  have hle : L.length ≤ zs.length + 1 := by have := HLn.out; omega
  have hge : zs.length + 1 ≤ L.length := by have := HLn.out; omega
  clear hs
  go_wp2_with fail
  refine (sS_eq p p3 q q3 L _ hO hW (by omega)).mono ?_
  rintro e w4 ⟨rfl, k5⟩
  have L4 := Lib.hid (hL.keep k5)
  have O4 := Lib.hid (hO.keep k5)
  have W4 := Lib.hid (hW.keep k5)
  have K4 : Keep w w4 := kk.trans k5
  clear hL hO hW k1 k2 k3 k5 kk
  obtain ⟨b, off, rfl, hb, hat⟩ := O4.out.all (by omega)
  obtain ⟨x0, x1⟩ := hat zs.length (by omega)
  rw [HG.out zs.length (Nat.le_refl _), HSl.out] at x0 x1
  unfold uL at x0
  unfold uH at x1
  dsimp only at x0 x1
  clear hat
  have HKn := Lib.hid (fun W (k : Keep w4 W) => known_any a c zs W (L4.out.keep k) (by omega))
  have HSm := Lib.hid (fun W p q (k : Ls W p (knl zs)) => sum_any p q (knl zs) W k HKb.out (by omega))
  have HCn := Lib.hid (fun W (k : Keep w4 W) => sk_impl a c zs W (L4.out.keep k) (by omega))
  rw [HSk.out] at HCn
  generalize isum (knl zs) = s at *
  generalize knN zs zs.length = n at *
  have zw : IntKind.i64.wrap (zs.length : Int) = (zs.length : Int) := IntWalk.i64_in _ ⟨by omega, by omega⟩
  have zw2 : IntKind.i64.wrap ((zs.length : Int) + 1 - 1) = (zs.length : Int) := by rw [Int.add_sub_cancel]; exact zw
  have m0 : (0 : Int) ≤ (zs.length : Int) := by omega
  have mz : (zs.length : Int) < (zs.length : Int) + 1 := by omega
  have z0 : (0 : Int) < (zs.length : Int) + 1 := by omega
  have d0 : decide ((0 : Int) < (zs.length : Int) + 1) = true := decide_eq_true z0
  rw [HLn.out]
  clear hle hge HG HSl hl1
  generalize knl zs = ks at *
  have hmix : Try.prog.follows .mixedOrders = true := by kernel_rfl
  go_wp2_with fail
  refine wp_region_any hmix ?_
  (try (change wpAny _ _ _ _ _ _ _ (World.drew _)))
  refine wpAny_take (i := 0) (oi := ({ dst := some 44, op := Op.move (Operand.tmp 4), type := 48, pos := "laws.go:2339", after := #[], guard := none })) (v := ?v1) rfl (by kernel_rfl) (by kernel_rfl) (by kernel_rfl) (fun _ _ _ h => h) (Or.inl ⟨by rfl, ?hy1⟩) ?rest1
  case hy1 => (intro w; go_simp; try with_reducible rfl)
  try simp only [Act.put, List.setIfInBounds_toArray, List.set_cons_zero, List.set_cons_succ]
  refine wpAny_take (i := 1) (oi := ({ dst := some 45, op := Op.call { callee := Callee.builtin Builtin.len, args := #[Operand.tmp 44], argTypes := #[48] }, type := 3, pos := "laws.go:2339", after := #[{ on := 0, ground := Ground.data }], guard := none })) (v := ?v2) rfl (by kernel_rfl) (by kernel_rfl) (by kernel_rfl) (fun _ _ _ h => h) (Or.inl ⟨by rfl, ?hy2⟩) ?rest2
  case hy2 => (intro w; go_simp; try with_reducible rfl)
  try simp only [Act.put, List.setIfInBounds_toArray, List.set_cons_zero, List.set_cons_succ]
  refine wpAny_take (i := 2) (oi := ({ dst := some 46, op := Op.binOp BinOp.gtr 3 (Operand.tmp 45) (Operand.const (Value.int IntKind.i64 0)) 3, type := 4, pos := "laws.go:2339", after := #[{ on := 1, ground := Ground.data }], guard := none })) (v := ?v3) rfl (by kernel_rfl) (by kernel_rfl) (by kernel_rfl) (fun _ _ _ h => h) (Or.inl ⟨by rfl, ?hy3⟩) ?rest3
  case hy3 => (intro w; go_simp; try with_reducible rfl)
  try simp only [Act.put, List.setIfInBounds_toArray, List.set_cons_zero, List.set_cons_succ]
  refine wpAny_take (i := 3) (oi := ({ dst := some 47, op := Op.move (Operand.tmp 46), type := 4, pos := "laws.go:2339", after := #[{ on := 2, ground := Ground.data }], guard := none })) (v := ?v4) rfl (by kernel_rfl) (by kernel_rfl) (by kernel_rfl) (fun _ _ _ h => h) (Or.inl ⟨by rfl, ?hy4⟩) ?rest4
  case hy4 => (intro w; go_simp; try with_reducible rfl)
  try simp only [Act.put, List.setIfInBounds_toArray, List.set_cons_zero, List.set_cons_succ]
  refine wpAny_take (i := 4) (oi := ({ dst := some 48, op := Op.move (Operand.tmp 4), type := 48, pos := "laws.go:2339", after := #[{ on := 3, ground := Ground.guard }], guard := some (3, true) })) (v := ?v5) rfl (by kernel_rfl) (by kernel_rfl) (by kernel_rfl) (fun _ _ _ h => h) (Or.inl ⟨by rfl, ?hy5⟩) ?rest5
  case hy5 => (intro w; go_simp; try with_reducible rfl)
  try simp only [Act.put, List.setIfInBounds_toArray, List.set_cons_zero, List.set_cons_succ]
  refine wpAny_take (i := 5) (oi := ({ dst := some 49, op := Op.move (Operand.tmp 4), type := 48, pos := "laws.go:2339", after := #[{ on := 3, ground := Ground.guard }], guard := some (3, true) })) (v := ?v6) rfl (by kernel_rfl) (by kernel_rfl) (by kernel_rfl) (fun _ _ _ h => h) (Or.inl ⟨by rfl, ?hy6⟩) ?rest6
  case hy6 => (intro w; go_simp; try with_reducible rfl)
  try simp only [Act.put, List.setIfInBounds_toArray, List.set_cons_zero, List.set_cons_succ]
  refine wpAny_take (i := 6) (oi := ({ dst := some 50, op := Op.call { callee := Callee.builtin Builtin.len, args := #[Operand.tmp 49], argTypes := #[48] }, type := 3, pos := "laws.go:2339", after := #[{ on := 5, ground := Ground.data }, { on := 3, ground := Ground.guard }], guard := some (3, true) })) (v := ?v7) rfl (by kernel_rfl) (by kernel_rfl) (by kernel_rfl) (fun _ _ _ h => h) (Or.inl ⟨by rfl, ?hy7⟩) ?rest7
  case hy7 => (intro w; go_simp; try with_reducible rfl)
  try simp only [Act.put, List.setIfInBounds_toArray, List.set_cons_zero, List.set_cons_succ]
  refine wpAny_take (i := 7) (oi := ({ dst := some 51, op := Op.binOp BinOp.sub 3 (Operand.tmp 50) (Operand.const (Value.int IntKind.i64 1)) 3, type := 3, pos := "laws.go:2339", after := #[{ on := 6, ground := Ground.data }, { on := 3, ground := Ground.guard }], guard := some (3, true) })) (v := ?v8) rfl (by kernel_rfl) (by kernel_rfl) (by kernel_rfl) (fun _ _ _ h => h) (Or.inl ⟨by rfl, ?hy8⟩) ?rest8
  case hy8 => (intro w; go_simp; try with_reducible rfl)
  try simp only [Act.put, List.setIfInBounds_toArray, List.set_cons_zero, List.set_cons_succ]
  refine wpAny_take (i := 8) (oi := ({ dst := some 52, op := Op.indexAddr 48 (Operand.tmp 48) (Operand.tmp 51), type := 0, pos := "laws.go:2339", after := #[{ on := 4, ground := Ground.data }, { on := 7, ground := Ground.data }, { on := 3, ground := Ground.guard }], guard := some (3, true) })) (v := ?v9) rfl (by kernel_rfl) (by kernel_rfl) (by kernel_rfl) (fun _ _ _ h => h) (Or.inl ⟨by rfl, ?hy9⟩) ?rest9
  case hy9 => (intro w; go_simp; try with_reducible rfl)
  try simp only [Act.put, List.setIfInBounds_toArray, List.set_cons_zero, List.set_cons_succ]
  refine wpAny_take (i := 10) (oi := ({ dst := some 54, op := Op.move (Operand.tmp 3), type := 27, pos := "laws.go:2339", after := #[{ on := 3, ground := Ground.guard }], guard := some (3, true) })) (v := ?v10) rfl (by kernel_rfl) (by kernel_rfl) (by kernel_rfl) (fun _ _ _ h => h) (Or.inl ⟨by rfl, ?hy10⟩) ?rest10
  case hy10 => (intro w; go_simp; try with_reducible rfl)
  try simp only [Act.put, List.setIfInBounds_toArray, List.set_cons_zero, List.set_cons_succ]
  refine wpAny_take (i := 13) (oi := ({ dst := some 57, op := Op.move (Operand.tmp 3), type := 27, pos := "laws.go:2339", after := #[{ on := 3, ground := Ground.guard }], guard := some (3, true) })) (v := ?v11) rfl (by kernel_rfl) (by kernel_rfl) (by kernel_rfl) (fun _ _ _ h => h) (Or.inl ⟨by rfl, ?hy11⟩) ?rest11
  case hy11 => (intro w; go_simp; try with_reducible rfl)
  try simp only [Act.put, List.setIfInBounds_toArray, List.set_cons_zero, List.set_cons_succ]
  refine wpAny_ready (rs := [9, 11]) (by kernel_rfl) (by simp) ?_
  refine AllReady.cons (o := ({ dst := some 53, op := Op.load 53 (Operand.tmp 52), type := 53, pos := "laws.go:2339", after := #[{ on := 8, ground := Ground.data }, { on := 3, ground := Ground.guard }], guard := some (3, true) })) rfl (fun K hK => ?_) ?_
  ·
    go_simp
    refine hK _ _ ?_
    clear hK K
    try simp only [Act.put, List.setIfInBounds_toArray, List.set_cons_zero, List.set_cons_succ]
    refine wpAny_ready (rs := [11]) (by kernel_rfl) (by simp) ?_
    refine AllReady.cons (o := ({ dst := some 55, op := Op.call { callee := Callee.value (Operand.func 33), args := #[Operand.tmp 54], argTypes := #[27] }, type := 27, pos := "laws.go:2339", after := #[{ on := 10, ground := Ground.data }, { on := 3, ground := Ground.chain }, { on := 3, ground := Ground.guard }], guard := some (3, true) })) rfl (fun K hK => ?_) ?_
    ·
      go_simp
      refine (HKn.out _ (Keep.refl w4).drew).mono ?_
      rintro e w6 ⟨g6, q6, rfl, _, hWr6, _, _, k6⟩
      have hL6 := hWr6.ls
      have k6' := ((Keep.refl w4).drew).trans k6
      have x0' := k6'.cell x0
      have x1' := k6'.cell x1
      go_simp
      refine hK _ _ ?_
      clear hK K
      try simp only [Act.put, List.setIfInBounds_toArray, List.set_cons_zero, List.set_cons_succ]
      refine wpAny_ready (rs := [12]) (by kernel_rfl) (by simp) ?_
      refine AllReady.cons (o := ({ dst := some 56, op := Op.call { callee := Callee.value (Operand.func 32), args := #[Operand.tmp 55], argTypes := #[27] }, type := 3, pos := "laws.go:2339", after := #[{ on := 11, ground := Ground.data }, { on := 11, ground := Ground.chain }, { on := 3, ground := Ground.guard }], guard := some (3, true) })) rfl (fun K hK => ?_) ?_
      ·
        go_simp
        refine (HSm.out _ _ _ hL6).mono ?_
        rintro e w7 ⟨rfl, rfl⟩
        go_simp
        refine hK _ _ ?_
        clear hK K
        try simp only [Act.put, List.setIfInBounds_toArray, List.set_cons_zero, List.set_cons_succ]
        refine wpAny_ready (rs := [14]) (by kernel_rfl) (by simp) ?_
        refine AllReady.cons (o := ({ dst := some 58, op := Op.call { callee := Callee.value (Operand.func 34), args := #[Operand.tmp 57], argTypes := #[27] }, type := 3, pos := "laws.go:2339", after := #[{ on := 13, ground := Ground.data }, { on := 12, ground := Ground.chain }, { on := 3, ground := Ground.guard }], guard := some (3, true) })) rfl (fun K hK => ?_) ?_
        ·
          go_simp
          refine (HCn.out _ k6').mono ?_
          rintro e w8 ⟨rfl, rfl⟩
          go_simp
          refine hK _ _ ?_
          clear hK K
          try simp only [Act.put, List.setIfInBounds_toArray, List.set_cons_zero, List.set_cons_succ]
          refine wpAny_take (i := 15) (oi := ({ dst := some 59, op := Op.build 53 #[(0, Operand.tmp 56), (1, Operand.tmp 58)], type := 53, pos := "laws.go:2339", after := #[{ on := 12, ground := Ground.data }, { on := 14, ground := Ground.data }, { on := 3, ground := Ground.guard }], guard := some (3, true) })) (v := ?v12) rfl (by kernel_rfl) (by kernel_rfl) (by kernel_rfl) (fun _ _ _ h => h) (Or.inl ⟨by rfl, ?hy12⟩) ?rest12
          case hy12 => (intro w; go_simp; try with_reducible rfl)
          try simp only [Act.put, List.setIfInBounds_toArray, List.set_cons_zero, List.set_cons_succ]
          refine wpAny_take (i := 16) (oi := ({ dst := some 60, op := Op.binOp BinOp.eql 53 (Operand.tmp 53) (Operand.tmp 59) 53, type := 4, pos := "laws.go:2339", after := #[{ on := 9, ground := Ground.data }, { on := 15, ground := Ground.data }, { on := 3, ground := Ground.guard }], guard := some (3, true) })) (v := ?v13) rfl (by kernel_rfl) (by kernel_rfl) (by kernel_rfl) (fun _ _ _ h => h) (Or.inl ⟨by rfl, ?hy13⟩) ?rest13
          case hy13 => (intro w; go_simp; try with_reducible rfl)
          try simp only [Act.put, List.setIfInBounds_toArray, List.set_cons_zero, List.set_cons_succ]
          refine wpAny_take (i := 17) (oi := ({ dst := some 61, op := Op.pick (Operand.tmp 47) (Operand.tmp 60) (Operand.const (Value.bool false)), type := 4, pos := "laws.go:2339", after := #[{ on := 3, ground := Ground.data }, { on := 16, ground := Ground.data }], guard := none })) (v := ?v14) rfl (by kernel_rfl) (by kernel_rfl) (by kernel_rfl) (fun _ _ _ h => h) (Or.inl ⟨by rfl, ?hy14⟩) ?rest14
          case hy14 => (intro w; go_simp; try with_reducible rfl)
          try simp only [Act.put, List.setIfInBounds_toArray, List.set_cons_zero, List.set_cons_succ]
          refine wpAny_take (i := 18) (oi := ({ dst := some 2, op := Op.assign (Operand.tmp 61), type := 4, pos := "laws.go:2339", after := #[{ on := 17, ground := Ground.data }, { on := 14, ground := Ground.chain }, { on := 0, ground := Ground.phase }, { on := 1, ground := Ground.phase }, { on := 2, ground := Ground.phase }, { on := 3, ground := Ground.phase }, { on := 4, ground := Ground.phase }, { on := 5, ground := Ground.phase }, { on := 6, ground := Ground.phase }, { on := 7, ground := Ground.phase }, { on := 8, ground := Ground.phase }, { on := 9, ground := Ground.phase }, { on := 10, ground := Ground.phase }, { on := 11, ground := Ground.phase }, { on := 12, ground := Ground.phase }, { on := 13, ground := Ground.phase }, { on := 14, ground := Ground.phase }, { on := 15, ground := Ground.phase }, { on := 16, ground := Ground.phase }, { on := 17, ground := Ground.phase }], guard := none })) (v := ?v15) rfl (by kernel_rfl) (by kernel_rfl) (by kernel_rfl) (fun _ _ _ h => h) (Or.inl ⟨by rfl, ?hy15⟩) ?rest15
          case hy15 => (intro w; go_simp; try with_reducible rfl)
          try simp only [Act.put, List.setIfInBounds_toArray, List.set_cons_zero, List.set_cons_succ]
          refine wpAny_done (by kernel_rfl) ?_ _
          go_wp2
          go_ret
          exact ⟨rfl, K4.trans k6'⟩
        exact AllReady.nil
      exact AllReady.nil
    exact AllReady.nil
  refine AllReady.cons (o := ({ dst := some 55, op := Op.call { callee := Callee.value (Operand.func 33), args := #[Operand.tmp 54], argTypes := #[27] }, type := 27, pos := "laws.go:2339", after := #[{ on := 10, ground := Ground.data }, { on := 3, ground := Ground.chain }, { on := 3, ground := Ground.guard }], guard := some (3, true) })) rfl (fun K hK => ?_) ?_
  ·
    go_simp
    refine (HKn.out _ (Keep.refl w4).drew).mono ?_
    rintro e w6 ⟨g6, q6, rfl, _, hWr6, _, _, k6⟩
    have hL6 := hWr6.ls
    have k6' := ((Keep.refl w4).drew).trans k6
    have x0' := k6'.cell x0
    have x1' := k6'.cell x1
    go_simp
    refine hK _ _ ?_
    clear hK K
    try simp only [Act.put, List.setIfInBounds_toArray, List.set_cons_zero, List.set_cons_succ]
    refine wpAny_ready (rs := [9, 12]) (by kernel_rfl) (by simp) ?_
    refine AllReady.cons (o := ({ dst := some 53, op := Op.load 53 (Operand.tmp 52), type := 53, pos := "laws.go:2339", after := #[{ on := 8, ground := Ground.data }, { on := 3, ground := Ground.guard }], guard := some (3, true) })) rfl (fun K hK => ?_) ?_
    ·
      go_simp
      refine hK _ _ ?_
      clear hK K
      try simp only [Act.put, List.setIfInBounds_toArray, List.set_cons_zero, List.set_cons_succ]
      refine wpAny_ready (rs := [12]) (by kernel_rfl) (by simp) ?_
      refine AllReady.cons (o := ({ dst := some 56, op := Op.call { callee := Callee.value (Operand.func 32), args := #[Operand.tmp 55], argTypes := #[27] }, type := 3, pos := "laws.go:2339", after := #[{ on := 11, ground := Ground.data }, { on := 11, ground := Ground.chain }, { on := 3, ground := Ground.guard }], guard := some (3, true) })) rfl (fun K hK => ?_) ?_
      ·
        go_simp
        refine (HSm.out _ _ _ hL6).mono ?_
        rintro e w7 ⟨rfl, rfl⟩
        go_simp
        refine hK _ _ ?_
        clear hK K
        try simp only [Act.put, List.setIfInBounds_toArray, List.set_cons_zero, List.set_cons_succ]
        refine wpAny_ready (rs := [14]) (by kernel_rfl) (by simp) ?_
        refine AllReady.cons (o := ({ dst := some 58, op := Op.call { callee := Callee.value (Operand.func 34), args := #[Operand.tmp 57], argTypes := #[27] }, type := 3, pos := "laws.go:2339", after := #[{ on := 13, ground := Ground.data }, { on := 12, ground := Ground.chain }, { on := 3, ground := Ground.guard }], guard := some (3, true) })) rfl (fun K hK => ?_) ?_
        ·
          go_simp
          refine (HCn.out _ k6').mono ?_
          rintro e w8 ⟨rfl, rfl⟩
          go_simp
          refine hK _ _ ?_
          clear hK K
          try simp only [Act.put, List.setIfInBounds_toArray, List.set_cons_zero, List.set_cons_succ]
          refine wpAny_take (i := 15) (oi := ({ dst := some 59, op := Op.build 53 #[(0, Operand.tmp 56), (1, Operand.tmp 58)], type := 53, pos := "laws.go:2339", after := #[{ on := 12, ground := Ground.data }, { on := 14, ground := Ground.data }, { on := 3, ground := Ground.guard }], guard := some (3, true) })) (v := ?v16) rfl (by kernel_rfl) (by kernel_rfl) (by kernel_rfl) (fun _ _ _ h => h) (Or.inl ⟨by rfl, ?hy16⟩) ?rest16
          case hy16 => (intro w; go_simp; try with_reducible rfl)
          try simp only [Act.put, List.setIfInBounds_toArray, List.set_cons_zero, List.set_cons_succ]
          refine wpAny_take (i := 16) (oi := ({ dst := some 60, op := Op.binOp BinOp.eql 53 (Operand.tmp 53) (Operand.tmp 59) 53, type := 4, pos := "laws.go:2339", after := #[{ on := 9, ground := Ground.data }, { on := 15, ground := Ground.data }, { on := 3, ground := Ground.guard }], guard := some (3, true) })) (v := ?v17) rfl (by kernel_rfl) (by kernel_rfl) (by kernel_rfl) (fun _ _ _ h => h) (Or.inl ⟨by rfl, ?hy17⟩) ?rest17
          case hy17 => (intro w; go_simp; try with_reducible rfl)
          try simp only [Act.put, List.setIfInBounds_toArray, List.set_cons_zero, List.set_cons_succ]
          refine wpAny_take (i := 17) (oi := ({ dst := some 61, op := Op.pick (Operand.tmp 47) (Operand.tmp 60) (Operand.const (Value.bool false)), type := 4, pos := "laws.go:2339", after := #[{ on := 3, ground := Ground.data }, { on := 16, ground := Ground.data }], guard := none })) (v := ?v18) rfl (by kernel_rfl) (by kernel_rfl) (by kernel_rfl) (fun _ _ _ h => h) (Or.inl ⟨by rfl, ?hy18⟩) ?rest18
          case hy18 => (intro w; go_simp; try with_reducible rfl)
          try simp only [Act.put, List.setIfInBounds_toArray, List.set_cons_zero, List.set_cons_succ]
          refine wpAny_take (i := 18) (oi := ({ dst := some 2, op := Op.assign (Operand.tmp 61), type := 4, pos := "laws.go:2339", after := #[{ on := 17, ground := Ground.data }, { on := 14, ground := Ground.chain }, { on := 0, ground := Ground.phase }, { on := 1, ground := Ground.phase }, { on := 2, ground := Ground.phase }, { on := 3, ground := Ground.phase }, { on := 4, ground := Ground.phase }, { on := 5, ground := Ground.phase }, { on := 6, ground := Ground.phase }, { on := 7, ground := Ground.phase }, { on := 8, ground := Ground.phase }, { on := 9, ground := Ground.phase }, { on := 10, ground := Ground.phase }, { on := 11, ground := Ground.phase }, { on := 12, ground := Ground.phase }, { on := 13, ground := Ground.phase }, { on := 14, ground := Ground.phase }, { on := 15, ground := Ground.phase }, { on := 16, ground := Ground.phase }, { on := 17, ground := Ground.phase }], guard := none })) (v := ?v19) rfl (by kernel_rfl) (by kernel_rfl) (by kernel_rfl) (fun _ _ _ h => h) (Or.inl ⟨by rfl, ?hy19⟩) ?rest19
          case hy19 => (intro w; go_simp; try with_reducible rfl)
          try simp only [Act.put, List.setIfInBounds_toArray, List.set_cons_zero, List.set_cons_succ]
          refine wpAny_done (by kernel_rfl) ?_ _
          go_wp2
          go_ret
          exact ⟨rfl, K4.trans k6'⟩
        exact AllReady.nil
      exact AllReady.nil
    refine AllReady.cons (o := ({ dst := some 56, op := Op.call { callee := Callee.value (Operand.func 32), args := #[Operand.tmp 55], argTypes := #[27] }, type := 3, pos := "laws.go:2339", after := #[{ on := 11, ground := Ground.data }, { on := 11, ground := Ground.chain }, { on := 3, ground := Ground.guard }], guard := some (3, true) })) rfl (fun K hK => ?_) ?_
    ·
      go_simp
      refine (HSm.out _ _ _ hL6).mono ?_
      rintro e w7 ⟨rfl, rfl⟩
      go_simp
      refine hK _ _ ?_
      clear hK K
      try simp only [Act.put, List.setIfInBounds_toArray, List.set_cons_zero, List.set_cons_succ]
      refine wpAny_ready (rs := [9, 14]) (by kernel_rfl) (by simp) ?_
      refine AllReady.cons (o := ({ dst := some 53, op := Op.load 53 (Operand.tmp 52), type := 53, pos := "laws.go:2339", after := #[{ on := 8, ground := Ground.data }, { on := 3, ground := Ground.guard }], guard := some (3, true) })) rfl (fun K hK => ?_) ?_
      ·
        go_simp
        refine hK _ _ ?_
        clear hK K
        try simp only [Act.put, List.setIfInBounds_toArray, List.set_cons_zero, List.set_cons_succ]
        refine wpAny_ready (rs := [14]) (by kernel_rfl) (by simp) ?_
        refine AllReady.cons (o := ({ dst := some 58, op := Op.call { callee := Callee.value (Operand.func 34), args := #[Operand.tmp 57], argTypes := #[27] }, type := 3, pos := "laws.go:2339", after := #[{ on := 13, ground := Ground.data }, { on := 12, ground := Ground.chain }, { on := 3, ground := Ground.guard }], guard := some (3, true) })) rfl (fun K hK => ?_) ?_
        ·
          go_simp
          refine (HCn.out _ k6').mono ?_
          rintro e w8 ⟨rfl, rfl⟩
          go_simp
          refine hK _ _ ?_
          clear hK K
          try simp only [Act.put, List.setIfInBounds_toArray, List.set_cons_zero, List.set_cons_succ]
          refine wpAny_take (i := 15) (oi := ({ dst := some 59, op := Op.build 53 #[(0, Operand.tmp 56), (1, Operand.tmp 58)], type := 53, pos := "laws.go:2339", after := #[{ on := 12, ground := Ground.data }, { on := 14, ground := Ground.data }, { on := 3, ground := Ground.guard }], guard := some (3, true) })) (v := ?v20) rfl (by kernel_rfl) (by kernel_rfl) (by kernel_rfl) (fun _ _ _ h => h) (Or.inl ⟨by rfl, ?hy20⟩) ?rest20
          case hy20 => (intro w; go_simp; try with_reducible rfl)
          try simp only [Act.put, List.setIfInBounds_toArray, List.set_cons_zero, List.set_cons_succ]
          refine wpAny_take (i := 16) (oi := ({ dst := some 60, op := Op.binOp BinOp.eql 53 (Operand.tmp 53) (Operand.tmp 59) 53, type := 4, pos := "laws.go:2339", after := #[{ on := 9, ground := Ground.data }, { on := 15, ground := Ground.data }, { on := 3, ground := Ground.guard }], guard := some (3, true) })) (v := ?v21) rfl (by kernel_rfl) (by kernel_rfl) (by kernel_rfl) (fun _ _ _ h => h) (Or.inl ⟨by rfl, ?hy21⟩) ?rest21
          case hy21 => (intro w; go_simp; try with_reducible rfl)
          try simp only [Act.put, List.setIfInBounds_toArray, List.set_cons_zero, List.set_cons_succ]
          refine wpAny_take (i := 17) (oi := ({ dst := some 61, op := Op.pick (Operand.tmp 47) (Operand.tmp 60) (Operand.const (Value.bool false)), type := 4, pos := "laws.go:2339", after := #[{ on := 3, ground := Ground.data }, { on := 16, ground := Ground.data }], guard := none })) (v := ?v22) rfl (by kernel_rfl) (by kernel_rfl) (by kernel_rfl) (fun _ _ _ h => h) (Or.inl ⟨by rfl, ?hy22⟩) ?rest22
          case hy22 => (intro w; go_simp; try with_reducible rfl)
          try simp only [Act.put, List.setIfInBounds_toArray, List.set_cons_zero, List.set_cons_succ]
          refine wpAny_take (i := 18) (oi := ({ dst := some 2, op := Op.assign (Operand.tmp 61), type := 4, pos := "laws.go:2339", after := #[{ on := 17, ground := Ground.data }, { on := 14, ground := Ground.chain }, { on := 0, ground := Ground.phase }, { on := 1, ground := Ground.phase }, { on := 2, ground := Ground.phase }, { on := 3, ground := Ground.phase }, { on := 4, ground := Ground.phase }, { on := 5, ground := Ground.phase }, { on := 6, ground := Ground.phase }, { on := 7, ground := Ground.phase }, { on := 8, ground := Ground.phase }, { on := 9, ground := Ground.phase }, { on := 10, ground := Ground.phase }, { on := 11, ground := Ground.phase }, { on := 12, ground := Ground.phase }, { on := 13, ground := Ground.phase }, { on := 14, ground := Ground.phase }, { on := 15, ground := Ground.phase }, { on := 16, ground := Ground.phase }, { on := 17, ground := Ground.phase }], guard := none })) (v := ?v23) rfl (by kernel_rfl) (by kernel_rfl) (by kernel_rfl) (fun _ _ _ h => h) (Or.inl ⟨by rfl, ?hy23⟩) ?rest23
          case hy23 => (intro w; go_simp; try with_reducible rfl)
          try simp only [Act.put, List.setIfInBounds_toArray, List.set_cons_zero, List.set_cons_succ]
          refine wpAny_done (by kernel_rfl) ?_ _
          go_wp2
          go_ret
          exact ⟨rfl, K4.trans k6'⟩
        exact AllReady.nil
      refine AllReady.cons (o := ({ dst := some 58, op := Op.call { callee := Callee.value (Operand.func 34), args := #[Operand.tmp 57], argTypes := #[27] }, type := 3, pos := "laws.go:2339", after := #[{ on := 13, ground := Ground.data }, { on := 12, ground := Ground.chain }, { on := 3, ground := Ground.guard }], guard := some (3, true) })) rfl (fun K hK => ?_) ?_
      ·
        go_simp
        refine (HCn.out _ k6').mono ?_
        rintro e w8 ⟨rfl, rfl⟩
        go_simp
        refine hK _ _ ?_
        clear hK K
        try simp only [Act.put, List.setIfInBounds_toArray, List.set_cons_zero, List.set_cons_succ]
        refine wpAny_take (i := 15) (oi := ({ dst := some 59, op := Op.build 53 #[(0, Operand.tmp 56), (1, Operand.tmp 58)], type := 53, pos := "laws.go:2339", after := #[{ on := 12, ground := Ground.data }, { on := 14, ground := Ground.data }, { on := 3, ground := Ground.guard }], guard := some (3, true) })) (v := ?v24) rfl (by kernel_rfl) (by kernel_rfl) (by kernel_rfl) (fun _ _ _ h => h) (Or.inl ⟨by rfl, ?hy24⟩) ?rest24
        case hy24 => (intro w; go_simp; try with_reducible rfl)
        try simp only [Act.put, List.setIfInBounds_toArray, List.set_cons_zero, List.set_cons_succ]
        refine wpAny_ready (rs := [9]) (by kernel_rfl) (by simp) ?_
        refine AllReady.cons (o := ({ dst := some 53, op := Op.load 53 (Operand.tmp 52), type := 53, pos := "laws.go:2339", after := #[{ on := 8, ground := Ground.data }, { on := 3, ground := Ground.guard }], guard := some (3, true) })) rfl (fun K hK => ?_) ?_
        ·
          go_simp
          refine hK _ _ ?_
          clear hK K
          try simp only [Act.put, List.setIfInBounds_toArray, List.set_cons_zero, List.set_cons_succ]
          refine wpAny_take (i := 16) (oi := ({ dst := some 60, op := Op.binOp BinOp.eql 53 (Operand.tmp 53) (Operand.tmp 59) 53, type := 4, pos := "laws.go:2339", after := #[{ on := 9, ground := Ground.data }, { on := 15, ground := Ground.data }, { on := 3, ground := Ground.guard }], guard := some (3, true) })) (v := ?v25) rfl (by kernel_rfl) (by kernel_rfl) (by kernel_rfl) (fun _ _ _ h => h) (Or.inl ⟨by rfl, ?hy25⟩) ?rest25
          case hy25 => (intro w; go_simp; try with_reducible rfl)
          try simp only [Act.put, List.setIfInBounds_toArray, List.set_cons_zero, List.set_cons_succ]
          refine wpAny_take (i := 17) (oi := ({ dst := some 61, op := Op.pick (Operand.tmp 47) (Operand.tmp 60) (Operand.const (Value.bool false)), type := 4, pos := "laws.go:2339", after := #[{ on := 3, ground := Ground.data }, { on := 16, ground := Ground.data }], guard := none })) (v := ?v26) rfl (by kernel_rfl) (by kernel_rfl) (by kernel_rfl) (fun _ _ _ h => h) (Or.inl ⟨by rfl, ?hy26⟩) ?rest26
          case hy26 => (intro w; go_simp; try with_reducible rfl)
          try simp only [Act.put, List.setIfInBounds_toArray, List.set_cons_zero, List.set_cons_succ]
          refine wpAny_take (i := 18) (oi := ({ dst := some 2, op := Op.assign (Operand.tmp 61), type := 4, pos := "laws.go:2339", after := #[{ on := 17, ground := Ground.data }, { on := 14, ground := Ground.chain }, { on := 0, ground := Ground.phase }, { on := 1, ground := Ground.phase }, { on := 2, ground := Ground.phase }, { on := 3, ground := Ground.phase }, { on := 4, ground := Ground.phase }, { on := 5, ground := Ground.phase }, { on := 6, ground := Ground.phase }, { on := 7, ground := Ground.phase }, { on := 8, ground := Ground.phase }, { on := 9, ground := Ground.phase }, { on := 10, ground := Ground.phase }, { on := 11, ground := Ground.phase }, { on := 12, ground := Ground.phase }, { on := 13, ground := Ground.phase }, { on := 14, ground := Ground.phase }, { on := 15, ground := Ground.phase }, { on := 16, ground := Ground.phase }, { on := 17, ground := Ground.phase }], guard := none })) (v := ?v27) rfl (by kernel_rfl) (by kernel_rfl) (by kernel_rfl) (fun _ _ _ h => h) (Or.inl ⟨by rfl, ?hy27⟩) ?rest27
          case hy27 => (intro w; go_simp; try with_reducible rfl)
          try simp only [Act.put, List.setIfInBounds_toArray, List.set_cons_zero, List.set_cons_succ]
          refine wpAny_done (by kernel_rfl) ?_ _
          go_wp2
          go_ret
          exact ⟨rfl, K4.trans k6'⟩
        exact AllReady.nil
      exact AllReady.nil
    exact AllReady.nil
  exact AllReady.nil

end Go.Proofs.Ytkiibklenpncpaa
