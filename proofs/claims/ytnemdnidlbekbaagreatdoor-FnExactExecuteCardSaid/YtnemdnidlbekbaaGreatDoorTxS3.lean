/- The model's text of a report of kind 3. -/
import Derived.Test.YtnemdnidlbekbaaGreatDoorTxA
namespace Go.Proofs.YtnemdnidlbekbaaGreatDoor
open Go.RowKit Go.Lib
set_option linter.unusedVariables false

set_option maxHeartbeats 2000000 in
theorem text_spec3 (s d v : Int) (w : World) (hr : rOk s d 3 v = true) :
    Calls Tryz.prog 30 #[.agg #[.int .i64 s, .int .i64 d, .int .i64 3, .int .i64 v]] w fun e w' => e = .returned (.string (tx s d 3 v)) ∧ Keep w w' := by
  obtain ⟨hk, ⟨s1, s2⟩, ⟨d1, d2⟩, ⟨v1, v2⟩⟩ := rOk_bd hr
  have E := Lib.hid (tx_yes hr)
  have z1 := dtx_size (n := s) (by omega) (by omega)
  have z2 := dtx_size (n := d) (by omega) (by omega)
  have z3 := dtx_size (n := v) (by omega) (by omega)
  have t1 : ¬ 9223372036854775807 < 1 + (dtx s).size := by omega
  have t2 : ¬ 9223372036854775807 < 1 + (dtx s).size + 2 := by omega
  have t3 : ¬ 9223372036854775807 < 1 + (dtx s).size + 2 + (dtx d).size := by omega
  have t4 : ¬ 9223372036854775807 < 1 + (dtx s).size + 2 + (dtx d).size + 1 := by omega
  have t5 : ¬ 9223372036854775807 < 1 + (dtx s).size + 2 + (dtx d).size + 1 + 1 := by omega
  have t6 : ¬ 9223372036854775807 < 1 + (dtx s).size + 2 + (dtx d).size + 1 + 1 + (dtx v).size := by omega
  go_enter Tryz.func30, Tryz.ntmps30
  go_wp2_with fail
  refine (rv_spec s d 3 v _).mono ?_
  rintro e w1 ⟨rfl, k1⟩
  have c0 : w1.cell? ⟨w.heap.size, 0, none⟩ = some (.int .i64 s) := Keep.new k1 0 rfl
  have c1 : w1.cell? ⟨w.heap.size, 1, none⟩ = some (.int .i64 d) := Keep.new k1 1 rfl
  have c2 : w1.cell? ⟨w.heap.size, 2, none⟩ = some (.int .i64 3) := Keep.new k1 2 rfl
  have c3 : w1.cell? ⟨w.heap.size, 3, none⟩ = some (.int .i64 v) := Keep.new k1 3 rfl
  have kw : Keep w w1 := Keep.trans ((Keep.refl w).alloc _) k1
  go_wp2_with fail
  have K0 : Keep w1 w1.drew := (Keep.refl w1).drew
  refine wp_region_held_drew (S := (fun w' => Keep w1 w' ∧ w'.cell? ⟨w.heap.size, 0, none⟩ = some (.int .i64 s) ∧ w'.cell? ⟨w.heap.size, 1, none⟩ = some (.int .i64 d) ∧ w'.cell? ⟨w.heap.size, 2, none⟩ = some (.int .i64 3) ∧ w'.cell? ⟨w.heap.size, 3, none⟩ = some (.int .i64 v))) (by kernel_rfl) ⟨K0, K0.cell c0, K0.cell c1, K0.cell c2, K0.cell c3⟩ (fun hHeld => ?_)
  refine wpAnyH_take (i := 0) (oi := { dst := some 6, op := Op.fieldAddr 54 (Operand.tmp 1) 0, type := 0, pos := "l1_reports.go:37", after := #[], guard := none }) (v := ?v1) rfl (by kernel_rfl) (by kernel_rfl) (by kernel_rfl) (fun _ _ _ h => h) (Or.inl ⟨by rfl, ?hy1⟩) hHeld ?rest1
  case hy1 => (intro w' hSw; (try dsimp only at hSw); go_split_ands; go_simp; try with_reducible rfl)
  try simp only [Act.put, List.setIfInBounds_toArray, List.set_cons_zero, List.set_cons_succ]
  refine wpAnyH_take (i := 1) (oi := { dst := some 7, op := Op.load 3 (Operand.tmp 6), type := 3, pos := "l1_reports.go:37", after := #[{ on := 0, ground := Ground.data }], guard := none }) (v := ?v2) rfl (by kernel_rfl) (by kernel_rfl) (by kernel_rfl) (fun _ _ _ h => h) (Or.inl ⟨by rfl, ?hy2⟩) hHeld ?rest2
  case hy2 => (intro w' hSw; (try dsimp only at hSw); go_split_ands; go_simp; try with_reducible rfl)
  try simp only [Act.put, List.setIfInBounds_toArray, List.set_cons_zero, List.set_cons_succ]
  refine wpAnyH_take (i := 5) (oi := { dst := some 11, op := Op.fieldAddr 54 (Operand.tmp 1) 1, type := 0, pos := "l1_reports.go:37", after := #[], guard := none }) (v := ?v3) rfl (by kernel_rfl) (by kernel_rfl) (by kernel_rfl) (fun _ _ _ h => h) (Or.inl ⟨by rfl, ?hy3⟩) hHeld ?rest3
  case hy3 => (intro w' hSw; (try dsimp only at hSw); go_split_ands; go_simp; try with_reducible rfl)
  try simp only [Act.put, List.setIfInBounds_toArray, List.set_cons_zero, List.set_cons_succ]
  refine wpAnyH_take (i := 6) (oi := { dst := some 12, op := Op.load 3 (Operand.tmp 11), type := 3, pos := "l1_reports.go:37", after := #[{ on := 5, ground := Ground.data }], guard := none }) (v := ?v4) rfl (by kernel_rfl) (by kernel_rfl) (by kernel_rfl) (fun _ _ _ h => h) (Or.inl ⟨by rfl, ?hy4⟩) hHeld ?rest4
  case hy4 => (intro w' hSw; (try dsimp only at hSw); go_split_ands; go_simp; try with_reducible rfl)
  try simp only [Act.put, List.setIfInBounds_toArray, List.set_cons_zero, List.set_cons_succ]
  refine wpAnyH_take (i := 11) (oi := { dst := some 17, op := Op.fieldAddr 54 (Operand.tmp 1) 2, type := 0, pos := "l1_reports.go:37", after := #[], guard := none }) (v := ?v5) rfl (by kernel_rfl) (by kernel_rfl) (by kernel_rfl) (fun _ _ _ h => h) (Or.inl ⟨by rfl, ?hy5⟩) hHeld ?rest5
  case hy5 => (intro w' hSw; (try dsimp only at hSw); go_split_ands; go_simp; try with_reducible rfl)
  try simp only [Act.put, List.setIfInBounds_toArray, List.set_cons_zero, List.set_cons_succ]
  refine wpAnyH_take (i := 12) (oi := { dst := some 18, op := Op.load 3 (Operand.tmp 17), type := 3, pos := "l1_reports.go:37", after := #[{ on := 11, ground := Ground.data }], guard := none }) (v := ?v6) rfl (by kernel_rfl) (by kernel_rfl) (by kernel_rfl) (fun _ _ _ h => h) (Or.inl ⟨by rfl, ?hy6⟩) hHeld ?rest6
  case hy6 => (intro w' hSw; (try dsimp only at hSw); go_split_ands; go_simp; try with_reducible rfl)
  try simp only [Act.put, List.setIfInBounds_toArray, List.set_cons_zero, List.set_cons_succ]
  refine wpAnyH_take (i := 16) (oi := { dst := some 22, op := Op.fieldAddr 54 (Operand.tmp 1) 3, type := 0, pos := "l1_reports.go:37", after := #[], guard := none }) (v := ?v7) rfl (by kernel_rfl) (by kernel_rfl) (by kernel_rfl) (fun _ _ _ h => h) (Or.inl ⟨by rfl, ?hy7⟩) hHeld ?rest7
  case hy7 => (intro w' hSw; (try dsimp only at hSw); go_split_ands; go_simp; try with_reducible rfl)
  try simp only [Act.put, List.setIfInBounds_toArray, List.set_cons_zero, List.set_cons_succ]
  refine wpAnyH_take (i := 17) (oi := { dst := some 23, op := Op.load 3 (Operand.tmp 22), type := 3, pos := "l1_reports.go:37", after := #[{ on := 16, ground := Ground.data }], guard := none }) (v := ?v8) rfl (by kernel_rfl) (by kernel_rfl) (by kernel_rfl) (fun _ _ _ h => h) (Or.inl ⟨by rfl, ?hy8⟩) hHeld ?rest8
  case hy8 => (intro w' hSw; (try dsimp only at hSw); go_split_ands; go_simp; try with_reducible rfl)
  try simp only [Act.put, List.setIfInBounds_toArray, List.set_cons_zero, List.set_cons_succ]
  refine wpAnyH_ready (rs := [2, 10]) (by kernel_rfl) (by simp) ?_
  refine AllReadyH.cons (o := { dst := some 8, op := Op.call { callee := Callee.value (Operand.func 28), args := #[Operand.tmp 7], argTypes := #[3] }, type := 9, pos := "l1_reports.go:37", after := #[{ on := 1, ground := Ground.data }], guard := none }) rfl (fun K hK => ?_) ?_
  ·
    go_simp
    go_at_call 28; refine (dec_any _ _ (by omega) (by omega)).mono ?_; rintro e w2 ⟨rfl, hk1⟩
    try go_wp2_with fail
    have K1 : Keep w1 w2 := Keep.trans K0 hk1
    refine hK.out _ _ ⟨K1, K1.cell c0, K1.cell c1, K1.cell c2, K1.cell c3⟩ (fun hHeld => ?_)
    clear hK K
    try simp only [Act.put, List.setIfInBounds_toArray, List.set_cons_zero, List.set_cons_succ]
    refine wpAnyH_take (i := 3) (oi := { dst := some 9, op := Op.binOp BinOp.add 9 (Operand.const (Value.string { data := #[115] })) (Operand.tmp 8) 9, type := 9, pos := "l1_reports.go:37", after := #[{ on := 2, ground := Ground.data }], guard := none }) (v := ?v9) rfl (by kernel_rfl) (by kernel_rfl) (by kernel_rfl) (fun _ _ _ h => h) (Or.inl ⟨by rfl, ?hy9⟩) hHeld ?rest9
    case hy9 => (intro w' hSw; (try dsimp only at hSw); go_split_ands; go_simp; try with_reducible rfl)
    try simp only [Act.put, List.setIfInBounds_toArray, List.set_cons_zero, List.set_cons_succ]
    refine wpAnyH_take (i := 4) (oi := { dst := some 10, op := Op.binOp BinOp.add 9 (Operand.tmp 9) (Operand.const (Value.string { data := #[32, 100] })) 9, type := 9, pos := "l1_reports.go:37", after := #[{ on := 3, ground := Ground.data }], guard := none }) (v := ?v10) rfl (by kernel_rfl) (by kernel_rfl) (by kernel_rfl) (fun _ _ _ h => h) (Or.inl ⟨by rfl, ?hy10⟩) hHeld ?rest10
    case hy10 => (intro w' hSw; (try dsimp only at hSw); go_split_ands; go_simp; try with_reducible rfl)
    try simp only [Act.put, List.setIfInBounds_toArray, List.set_cons_zero, List.set_cons_succ]
    refine wpAnyH_ready (rs := [7, 10]) (by kernel_rfl) (by simp) ?_
    refine AllReadyH.cons (o := { dst := some 13, op := Op.call { callee := Callee.value (Operand.func 28), args := #[Operand.tmp 12], argTypes := #[3] }, type := 9, pos := "l1_reports.go:37", after := #[{ on := 6, ground := Ground.data }, { on := 2, ground := Ground.chain }], guard := none }) rfl (fun K hK => ?_) ?_
    ·
      go_simp
      go_at_call 28; refine (dec_any _ _ (by omega) (by omega)).mono ?_; rintro e w3 ⟨rfl, hk2⟩
      try go_wp2_with fail
      have K2 : Keep w1 w3 := Keep.trans K1 hk2
      refine hK.out _ _ ⟨K2, K2.cell c0, K2.cell c1, K2.cell c2, K2.cell c3⟩ (fun hHeld => ?_)
      clear hK K
      try simp only [Act.put, List.setIfInBounds_toArray, List.set_cons_zero, List.set_cons_succ]
      refine wpAnyH_take (i := 8) (oi := { dst := some 14, op := Op.binOp BinOp.add 9 (Operand.tmp 10) (Operand.tmp 13) 9, type := 9, pos := "l1_reports.go:37", after := #[{ on := 4, ground := Ground.data }, { on := 7, ground := Ground.data }], guard := none }) (v := ?v11) rfl (by kernel_rfl) (by kernel_rfl) (by kernel_rfl) (fun _ _ _ h => h) (Or.inl ⟨by rfl, ?hy11⟩) hHeld ?rest11
      case hy11 => (intro w' hSw; (try dsimp only at hSw); go_split_ands; go_simp; try with_reducible rfl)
      try simp only [Act.put, List.setIfInBounds_toArray, List.set_cons_zero, List.set_cons_succ]
      refine wpAnyH_take (i := 9) (oi := { dst := some 15, op := Op.binOp BinOp.add 9 (Operand.tmp 14) (Operand.const (Value.string { data := #[32] })) 9, type := 9, pos := "l1_reports.go:37", after := #[{ on := 8, ground := Ground.data }], guard := none }) (v := ?v12) rfl (by kernel_rfl) (by kernel_rfl) (by kernel_rfl) (fun _ _ _ h => h) (Or.inl ⟨by rfl, ?hy12⟩) hHeld ?rest12
      case hy12 => (intro w' hSw; (try dsimp only at hSw); go_split_ands; go_simp; try with_reducible rfl)
      try simp only [Act.put, List.setIfInBounds_toArray, List.set_cons_zero, List.set_cons_succ]
      refine wpAnyH_ready (rs := [10, 18]) (by kernel_rfl) (by simp) ?_
      refine AllReadyH.cons (o := { dst := some 16, op := Op.buildSlice 38 4 #[(0, Operand.const (Value.string { data := #[] })), (1, Operand.const (Value.string { data := #[116] })), (2, Operand.const (Value.string { data := #[114] })), (3, Operand.const (Value.string { data := #[112] }))], type := 38, pos := "l1_reports.go:37", after := #[], guard := none }) rfl (fun K hK => ?_) ?_
      ·
        go_simp
        have K3 : Keep w1 (w3.alloc (.cells #[.string ⟨#[]⟩, .string ⟨#[116]⟩, .string ⟨#[114]⟩, .string ⟨#[112]⟩] 9)) := Keep.alloc K2 _
        have m3 : (w3.alloc (.cells #[.string ⟨#[]⟩, .string ⟨#[116]⟩, .string ⟨#[114]⟩, .string ⟨#[112]⟩] 9)).cell? ⟨w3.heap.size, 3, none⟩ = some (.string ⟨#[112]⟩) := by go_simp
        refine hK.out _ _ ⟨K3, K3.cell c0, K3.cell c1, K3.cell c2, K3.cell c3⟩ (fun _ => ?_)
        clear hK K
        try simp only [Act.put, List.setIfInBounds_toArray, List.set_cons_zero, List.set_cons_succ]
        refine wpAnyH_mono (S2 := (fun w' => (fun w' => Keep w1 w' ∧ w'.cell? ⟨w.heap.size, 0, none⟩ = some (.int .i64 s) ∧ w'.cell? ⟨w.heap.size, 1, none⟩ = some (.int .i64 d) ∧ w'.cell? ⟨w.heap.size, 2, none⟩ = some (.int .i64 3) ∧ w'.cell? ⟨w.heap.size, 3, none⟩ = some (.int .i64 v)) w' ∧ w'.cell? ⟨w3.heap.size, 3, none⟩ = some (.string ⟨#[112]⟩))) (fun _ h => h.1) _ _ _ _ ?_
        have hHeld : (fun w' => (fun w' => Keep w1 w' ∧ w'.cell? ⟨w.heap.size, 0, none⟩ = some (.int .i64 s) ∧ w'.cell? ⟨w.heap.size, 1, none⟩ = some (.int .i64 d) ∧ w'.cell? ⟨w.heap.size, 2, none⟩ = some (.int .i64 3) ∧ w'.cell? ⟨w.heap.size, 3, none⟩ = some (.int .i64 v)) w' ∧ w'.cell? ⟨w3.heap.size, 3, none⟩ = some (.string ⟨#[112]⟩)) (w3.alloc (.cells #[.string ⟨#[]⟩, .string ⟨#[116]⟩, .string ⟨#[114]⟩, .string ⟨#[112]⟩] 9)) := ⟨⟨K3, K3.cell c0, K3.cell c1, K3.cell c2, K3.cell c3⟩, m3⟩
        refine wpAnyH_take (i := 13) (oi := { dst := some 19, op := Op.indexAddr 38 (Operand.tmp 16) (Operand.tmp 18), type := 0, pos := "l1_reports.go:37", after := #[{ on := 10, ground := Ground.data }, { on := 12, ground := Ground.data }], guard := none }) (v := ?v13) rfl (by kernel_rfl) (by kernel_rfl) (by kernel_rfl) (fun _ _ _ h => h) (Or.inl ⟨by rfl, ?hy13⟩) hHeld ?rest13
        case hy13 => (intro w' hSw; (try dsimp only at hSw); go_split_ands; go_simp; try with_reducible rfl)
        try simp only [Act.put, List.setIfInBounds_toArray, List.set_cons_zero, List.set_cons_succ]
        refine wpAnyH_take (i := 14) (oi := { dst := some 20, op := Op.load 9 (Operand.tmp 19), type := 9, pos := "l1_reports.go:37", after := #[{ on := 13, ground := Ground.data }], guard := none }) (v := ?v14) rfl (by kernel_rfl) (by kernel_rfl) (by kernel_rfl) (fun _ _ _ h => h) (Or.inl ⟨by rfl, ?hy14⟩) hHeld ?rest14
        case hy14 => (intro w' hSw; (try dsimp only at hSw); go_split_ands; go_simp; try with_reducible rfl)
        try simp only [Act.put, List.setIfInBounds_toArray, List.set_cons_zero, List.set_cons_succ]
        refine wpAnyH_take (i := 15) (oi := { dst := some 21, op := Op.binOp BinOp.add 9 (Operand.tmp 15) (Operand.tmp 20) 9, type := 9, pos := "l1_reports.go:37", after := #[{ on := 9, ground := Ground.data }, { on := 14, ground := Ground.data }], guard := none }) (v := ?v15) rfl (by kernel_rfl) (by kernel_rfl) (by kernel_rfl) (fun _ _ _ h => h) (Or.inl ⟨by rfl, ?hy15⟩) hHeld ?rest15
        case hy15 => (intro w' hSw; (try dsimp only at hSw); go_split_ands; go_simp; try with_reducible rfl)
        try simp only [Act.put, List.setIfInBounds_toArray, List.set_cons_zero, List.set_cons_succ]
        refine wpAnyH_ready (rs := [18]) (by kernel_rfl) (by simp) ?_
        refine AllReadyH.cons (o := { dst := some 24, op := Op.call { callee := Callee.value (Operand.func 43), args := #[Operand.tmp 23], argTypes := #[3] }, type := 9, pos := "l1_reports.go:37", after := #[{ on := 17, ground := Ground.data }, { on := 7, ground := Ground.chain }], guard := none }) rfl (fun K hK => ?_) ?_
        ·
          go_simp
          go_at_call 43; refine (int_any _ _ (by omega) (by omega)).mono ?_; rintro e w5 ⟨rfl, hk4⟩
          try go_wp2_with fail
          have K4 : Keep w1 w5 := Keep.trans K3 hk4
          have m4 : w5.cell? ⟨w3.heap.size, 3, none⟩ = some (.string ⟨#[112]⟩) := hk4.cell m3
          refine hK.out _ _ ⟨⟨K4, K4.cell c0, K4.cell c1, K4.cell c2, K4.cell c3⟩, m4⟩ (fun hHeld => ?_)
          clear hK K
          try simp only [Act.put, List.setIfInBounds_toArray, List.set_cons_zero, List.set_cons_succ]
          refine wpAnyH_take (i := 19) (oi := { dst := some 25, op := Op.binOp BinOp.add 9 (Operand.tmp 21) (Operand.tmp 24) 9, type := 9, pos := "l1_reports.go:37", after := #[{ on := 15, ground := Ground.data }, { on := 18, ground := Ground.data }], guard := none }) (v := ?v16) rfl (by kernel_rfl) (by kernel_rfl) (by kernel_rfl) (fun _ _ _ h => h) (Or.inl ⟨by rfl, ?hy16⟩) hHeld ?rest16
          case hy16 => (intro w' hSw; (try dsimp only at hSw); go_split_ands; go_simp; try with_reducible rfl)
          try simp only [Act.put, List.setIfInBounds_toArray, List.set_cons_zero, List.set_cons_succ]
          refine wpAnyH_take (i := 20) (oi := { dst := some 2, op := Op.assign (Operand.tmp 25), type := 9, pos := "l1_reports.go:37", after := #[{ on := 19, ground := Ground.data }, { on := 18, ground := Ground.chain }, { on := 0, ground := Ground.phase }, { on := 1, ground := Ground.phase }, { on := 2, ground := Ground.phase }, { on := 3, ground := Ground.phase }, { on := 4, ground := Ground.phase }, { on := 5, ground := Ground.phase }, { on := 6, ground := Ground.phase }, { on := 7, ground := Ground.phase }, { on := 8, ground := Ground.phase }, { on := 9, ground := Ground.phase }, { on := 10, ground := Ground.phase }, { on := 11, ground := Ground.phase }, { on := 12, ground := Ground.phase }, { on := 13, ground := Ground.phase }, { on := 14, ground := Ground.phase }, { on := 15, ground := Ground.phase }, { on := 16, ground := Ground.phase }, { on := 17, ground := Ground.phase }, { on := 18, ground := Ground.phase }, { on := 19, ground := Ground.phase }], guard := none }) (v := ?v17) rfl (by kernel_rfl) (by kernel_rfl) (by kernel_rfl) (fun _ _ _ h => h) (Or.inl ⟨by rfl, ?hy17⟩) hHeld ?rest17
          case hy17 => (intro w' hSw; (try dsimp only at hSw); go_split_ands; go_simp; try with_reducible rfl)
          try simp only [Act.put, List.setIfInBounds_toArray, List.set_cons_zero, List.set_cons_succ]
          refine wpAnyH_done (by kernel_rfl) ?_ _
          go_wp2
          go_ret
          refine ⟨retS ?_, kw.trans K4⟩
          rw [E.out]
          exact bytes_eq (by simp [txt, kLet, dtx_list])
        exact AllReadyH.nil
      refine AllReadyH.cons (o := { dst := some 24, op := Op.call { callee := Callee.value (Operand.func 43), args := #[Operand.tmp 23], argTypes := #[3] }, type := 9, pos := "l1_reports.go:37", after := #[{ on := 17, ground := Ground.data }, { on := 7, ground := Ground.chain }], guard := none }) rfl (fun K hK => ?_) ?_
      ·
        go_simp
        go_at_call 43; refine (int_any _ _ (by omega) (by omega)).mono ?_; rintro e w6 ⟨rfl, hk5⟩
        try go_wp2_with fail
        have K5 : Keep w1 w6 := Keep.trans K2 hk5
        refine hK.out _ _ ⟨K5, K5.cell c0, K5.cell c1, K5.cell c2, K5.cell c3⟩ (fun hHeld => ?_)
        clear hK K
        try simp only [Act.put, List.setIfInBounds_toArray, List.set_cons_zero, List.set_cons_succ]
        refine wpAnyH_ready (rs := [10]) (by kernel_rfl) (by simp) ?_
        refine AllReadyH.cons (o := { dst := some 16, op := Op.buildSlice 38 4 #[(0, Operand.const (Value.string { data := #[] })), (1, Operand.const (Value.string { data := #[116] })), (2, Operand.const (Value.string { data := #[114] })), (3, Operand.const (Value.string { data := #[112] }))], type := 38, pos := "l1_reports.go:37", after := #[], guard := none }) rfl (fun K hK => ?_) ?_
        ·
          go_simp
          have K6 : Keep w1 (w6.alloc (.cells #[.string ⟨#[]⟩, .string ⟨#[116]⟩, .string ⟨#[114]⟩, .string ⟨#[112]⟩] 9)) := Keep.alloc K5 _
          have m6 : (w6.alloc (.cells #[.string ⟨#[]⟩, .string ⟨#[116]⟩, .string ⟨#[114]⟩, .string ⟨#[112]⟩] 9)).cell? ⟨w6.heap.size, 3, none⟩ = some (.string ⟨#[112]⟩) := by go_simp
          refine hK.out _ _ ⟨K6, K6.cell c0, K6.cell c1, K6.cell c2, K6.cell c3⟩ (fun _ => ?_)
          clear hK K
          try simp only [Act.put, List.setIfInBounds_toArray, List.set_cons_zero, List.set_cons_succ]
          refine wpAnyH_mono (S2 := (fun w' => (fun w' => Keep w1 w' ∧ w'.cell? ⟨w.heap.size, 0, none⟩ = some (.int .i64 s) ∧ w'.cell? ⟨w.heap.size, 1, none⟩ = some (.int .i64 d) ∧ w'.cell? ⟨w.heap.size, 2, none⟩ = some (.int .i64 3) ∧ w'.cell? ⟨w.heap.size, 3, none⟩ = some (.int .i64 v)) w' ∧ w'.cell? ⟨w6.heap.size, 3, none⟩ = some (.string ⟨#[112]⟩))) (fun _ h => h.1) _ _ _ _ ?_
          have hHeld : (fun w' => (fun w' => Keep w1 w' ∧ w'.cell? ⟨w.heap.size, 0, none⟩ = some (.int .i64 s) ∧ w'.cell? ⟨w.heap.size, 1, none⟩ = some (.int .i64 d) ∧ w'.cell? ⟨w.heap.size, 2, none⟩ = some (.int .i64 3) ∧ w'.cell? ⟨w.heap.size, 3, none⟩ = some (.int .i64 v)) w' ∧ w'.cell? ⟨w6.heap.size, 3, none⟩ = some (.string ⟨#[112]⟩)) (w6.alloc (.cells #[.string ⟨#[]⟩, .string ⟨#[116]⟩, .string ⟨#[114]⟩, .string ⟨#[112]⟩] 9)) := ⟨⟨K6, K6.cell c0, K6.cell c1, K6.cell c2, K6.cell c3⟩, m6⟩
          refine wpAnyH_take (i := 13) (oi := { dst := some 19, op := Op.indexAddr 38 (Operand.tmp 16) (Operand.tmp 18), type := 0, pos := "l1_reports.go:37", after := #[{ on := 10, ground := Ground.data }, { on := 12, ground := Ground.data }], guard := none }) (v := ?v18) rfl (by kernel_rfl) (by kernel_rfl) (by kernel_rfl) (fun _ _ _ h => h) (Or.inl ⟨by rfl, ?hy18⟩) hHeld ?rest18
          case hy18 => (intro w' hSw; (try dsimp only at hSw); go_split_ands; go_simp; try with_reducible rfl)
          try simp only [Act.put, List.setIfInBounds_toArray, List.set_cons_zero, List.set_cons_succ]
          refine wpAnyH_take (i := 14) (oi := { dst := some 20, op := Op.load 9 (Operand.tmp 19), type := 9, pos := "l1_reports.go:37", after := #[{ on := 13, ground := Ground.data }], guard := none }) (v := ?v19) rfl (by kernel_rfl) (by kernel_rfl) (by kernel_rfl) (fun _ _ _ h => h) (Or.inl ⟨by rfl, ?hy19⟩) hHeld ?rest19
          case hy19 => (intro w' hSw; (try dsimp only at hSw); go_split_ands; go_simp; try with_reducible rfl)
          try simp only [Act.put, List.setIfInBounds_toArray, List.set_cons_zero, List.set_cons_succ]
          refine wpAnyH_take (i := 15) (oi := { dst := some 21, op := Op.binOp BinOp.add 9 (Operand.tmp 15) (Operand.tmp 20) 9, type := 9, pos := "l1_reports.go:37", after := #[{ on := 9, ground := Ground.data }, { on := 14, ground := Ground.data }], guard := none }) (v := ?v20) rfl (by kernel_rfl) (by kernel_rfl) (by kernel_rfl) (fun _ _ _ h => h) (Or.inl ⟨by rfl, ?hy20⟩) hHeld ?rest20
          case hy20 => (intro w' hSw; (try dsimp only at hSw); go_split_ands; go_simp; try with_reducible rfl)
          try simp only [Act.put, List.setIfInBounds_toArray, List.set_cons_zero, List.set_cons_succ]
          refine wpAnyH_take (i := 19) (oi := { dst := some 25, op := Op.binOp BinOp.add 9 (Operand.tmp 21) (Operand.tmp 24) 9, type := 9, pos := "l1_reports.go:37", after := #[{ on := 15, ground := Ground.data }, { on := 18, ground := Ground.data }], guard := none }) (v := ?v21) rfl (by kernel_rfl) (by kernel_rfl) (by kernel_rfl) (fun _ _ _ h => h) (Or.inl ⟨by rfl, ?hy21⟩) hHeld ?rest21
          case hy21 => (intro w' hSw; (try dsimp only at hSw); go_split_ands; go_simp; try with_reducible rfl)
          try simp only [Act.put, List.setIfInBounds_toArray, List.set_cons_zero, List.set_cons_succ]
          refine wpAnyH_take (i := 20) (oi := { dst := some 2, op := Op.assign (Operand.tmp 25), type := 9, pos := "l1_reports.go:37", after := #[{ on := 19, ground := Ground.data }, { on := 18, ground := Ground.chain }, { on := 0, ground := Ground.phase }, { on := 1, ground := Ground.phase }, { on := 2, ground := Ground.phase }, { on := 3, ground := Ground.phase }, { on := 4, ground := Ground.phase }, { on := 5, ground := Ground.phase }, { on := 6, ground := Ground.phase }, { on := 7, ground := Ground.phase }, { on := 8, ground := Ground.phase }, { on := 9, ground := Ground.phase }, { on := 10, ground := Ground.phase }, { on := 11, ground := Ground.phase }, { on := 12, ground := Ground.phase }, { on := 13, ground := Ground.phase }, { on := 14, ground := Ground.phase }, { on := 15, ground := Ground.phase }, { on := 16, ground := Ground.phase }, { on := 17, ground := Ground.phase }, { on := 18, ground := Ground.phase }, { on := 19, ground := Ground.phase }], guard := none }) (v := ?v22) rfl (by kernel_rfl) (by kernel_rfl) (by kernel_rfl) (fun _ _ _ h => h) (Or.inl ⟨by rfl, ?hy22⟩) hHeld ?rest22
          case hy22 => (intro w' hSw; (try dsimp only at hSw); go_split_ands; go_simp; try with_reducible rfl)
          try simp only [Act.put, List.setIfInBounds_toArray, List.set_cons_zero, List.set_cons_succ]
          refine wpAnyH_done (by kernel_rfl) ?_ _
          go_wp2
          go_ret
          refine ⟨retS ?_, kw.trans K6⟩
          rw [E.out]
          exact bytes_eq (by simp [txt, kLet, dtx_list])
        exact AllReadyH.nil
      exact AllReadyH.nil
    refine AllReadyH.cons (o := { dst := some 16, op := Op.buildSlice 38 4 #[(0, Operand.const (Value.string { data := #[] })), (1, Operand.const (Value.string { data := #[116] })), (2, Operand.const (Value.string { data := #[114] })), (3, Operand.const (Value.string { data := #[112] }))], type := 38, pos := "l1_reports.go:37", after := #[], guard := none }) rfl (fun K hK => ?_) ?_
    ·
      go_simp
      have K7 : Keep w1 (w2.alloc (.cells #[.string ⟨#[]⟩, .string ⟨#[116]⟩, .string ⟨#[114]⟩, .string ⟨#[112]⟩] 9)) := Keep.alloc K1 _
      have m7 : (w2.alloc (.cells #[.string ⟨#[]⟩, .string ⟨#[116]⟩, .string ⟨#[114]⟩, .string ⟨#[112]⟩] 9)).cell? ⟨w2.heap.size, 3, none⟩ = some (.string ⟨#[112]⟩) := by go_simp
      refine hK.out _ _ ⟨K7, K7.cell c0, K7.cell c1, K7.cell c2, K7.cell c3⟩ (fun _ => ?_)
      clear hK K
      try simp only [Act.put, List.setIfInBounds_toArray, List.set_cons_zero, List.set_cons_succ]
      refine wpAnyH_mono (S2 := (fun w' => (fun w' => Keep w1 w' ∧ w'.cell? ⟨w.heap.size, 0, none⟩ = some (.int .i64 s) ∧ w'.cell? ⟨w.heap.size, 1, none⟩ = some (.int .i64 d) ∧ w'.cell? ⟨w.heap.size, 2, none⟩ = some (.int .i64 3) ∧ w'.cell? ⟨w.heap.size, 3, none⟩ = some (.int .i64 v)) w' ∧ w'.cell? ⟨w2.heap.size, 3, none⟩ = some (.string ⟨#[112]⟩))) (fun _ h => h.1) _ _ _ _ ?_
      have hHeld : (fun w' => (fun w' => Keep w1 w' ∧ w'.cell? ⟨w.heap.size, 0, none⟩ = some (.int .i64 s) ∧ w'.cell? ⟨w.heap.size, 1, none⟩ = some (.int .i64 d) ∧ w'.cell? ⟨w.heap.size, 2, none⟩ = some (.int .i64 3) ∧ w'.cell? ⟨w.heap.size, 3, none⟩ = some (.int .i64 v)) w' ∧ w'.cell? ⟨w2.heap.size, 3, none⟩ = some (.string ⟨#[112]⟩)) (w2.alloc (.cells #[.string ⟨#[]⟩, .string ⟨#[116]⟩, .string ⟨#[114]⟩, .string ⟨#[112]⟩] 9)) := ⟨⟨K7, K7.cell c0, K7.cell c1, K7.cell c2, K7.cell c3⟩, m7⟩
      refine wpAnyH_take (i := 13) (oi := { dst := some 19, op := Op.indexAddr 38 (Operand.tmp 16) (Operand.tmp 18), type := 0, pos := "l1_reports.go:37", after := #[{ on := 10, ground := Ground.data }, { on := 12, ground := Ground.data }], guard := none }) (v := ?v23) rfl (by kernel_rfl) (by kernel_rfl) (by kernel_rfl) (fun _ _ _ h => h) (Or.inl ⟨by rfl, ?hy23⟩) hHeld ?rest23
      case hy23 => (intro w' hSw; (try dsimp only at hSw); go_split_ands; go_simp; try with_reducible rfl)
      try simp only [Act.put, List.setIfInBounds_toArray, List.set_cons_zero, List.set_cons_succ]
      refine wpAnyH_take (i := 14) (oi := { dst := some 20, op := Op.load 9 (Operand.tmp 19), type := 9, pos := "l1_reports.go:37", after := #[{ on := 13, ground := Ground.data }], guard := none }) (v := ?v24) rfl (by kernel_rfl) (by kernel_rfl) (by kernel_rfl) (fun _ _ _ h => h) (Or.inl ⟨by rfl, ?hy24⟩) hHeld ?rest24
      case hy24 => (intro w' hSw; (try dsimp only at hSw); go_split_ands; go_simp; try with_reducible rfl)
      try simp only [Act.put, List.setIfInBounds_toArray, List.set_cons_zero, List.set_cons_succ]
      refine wpAnyH_ready (rs := [7]) (by kernel_rfl) (by simp) ?_
      refine AllReadyH.cons (o := { dst := some 13, op := Op.call { callee := Callee.value (Operand.func 28), args := #[Operand.tmp 12], argTypes := #[3] }, type := 9, pos := "l1_reports.go:37", after := #[{ on := 6, ground := Ground.data }, { on := 2, ground := Ground.chain }], guard := none }) rfl (fun K hK => ?_) ?_
      ·
        go_simp
        go_at_call 28; refine (dec_any _ _ (by omega) (by omega)).mono ?_; rintro e w9 ⟨rfl, hk8⟩
        try go_wp2_with fail
        have K8 : Keep w1 w9 := Keep.trans K7 hk8
        have m8 : w9.cell? ⟨w2.heap.size, 3, none⟩ = some (.string ⟨#[112]⟩) := hk8.cell m7
        refine hK.out _ _ ⟨⟨K8, K8.cell c0, K8.cell c1, K8.cell c2, K8.cell c3⟩, m8⟩ (fun hHeld => ?_)
        clear hK K
        try simp only [Act.put, List.setIfInBounds_toArray, List.set_cons_zero, List.set_cons_succ]
        refine wpAnyH_take (i := 8) (oi := { dst := some 14, op := Op.binOp BinOp.add 9 (Operand.tmp 10) (Operand.tmp 13) 9, type := 9, pos := "l1_reports.go:37", after := #[{ on := 4, ground := Ground.data }, { on := 7, ground := Ground.data }], guard := none }) (v := ?v25) rfl (by kernel_rfl) (by kernel_rfl) (by kernel_rfl) (fun _ _ _ h => h) (Or.inl ⟨by rfl, ?hy25⟩) hHeld ?rest25
        case hy25 => (intro w' hSw; (try dsimp only at hSw); go_split_ands; go_simp; try with_reducible rfl)
        try simp only [Act.put, List.setIfInBounds_toArray, List.set_cons_zero, List.set_cons_succ]
        refine wpAnyH_take (i := 9) (oi := { dst := some 15, op := Op.binOp BinOp.add 9 (Operand.tmp 14) (Operand.const (Value.string { data := #[32] })) 9, type := 9, pos := "l1_reports.go:37", after := #[{ on := 8, ground := Ground.data }], guard := none }) (v := ?v26) rfl (by kernel_rfl) (by kernel_rfl) (by kernel_rfl) (fun _ _ _ h => h) (Or.inl ⟨by rfl, ?hy26⟩) hHeld ?rest26
        case hy26 => (intro w' hSw; (try dsimp only at hSw); go_split_ands; go_simp; try with_reducible rfl)
        try simp only [Act.put, List.setIfInBounds_toArray, List.set_cons_zero, List.set_cons_succ]
        refine wpAnyH_take (i := 15) (oi := { dst := some 21, op := Op.binOp BinOp.add 9 (Operand.tmp 15) (Operand.tmp 20) 9, type := 9, pos := "l1_reports.go:37", after := #[{ on := 9, ground := Ground.data }, { on := 14, ground := Ground.data }], guard := none }) (v := ?v27) rfl (by kernel_rfl) (by kernel_rfl) (by kernel_rfl) (fun _ _ _ h => h) (Or.inl ⟨by rfl, ?hy27⟩) hHeld ?rest27
        case hy27 => (intro w' hSw; (try dsimp only at hSw); go_split_ands; go_simp; try with_reducible rfl)
        try simp only [Act.put, List.setIfInBounds_toArray, List.set_cons_zero, List.set_cons_succ]
        refine wpAnyH_ready (rs := [18]) (by kernel_rfl) (by simp) ?_
        refine AllReadyH.cons (o := { dst := some 24, op := Op.call { callee := Callee.value (Operand.func 43), args := #[Operand.tmp 23], argTypes := #[3] }, type := 9, pos := "l1_reports.go:37", after := #[{ on := 17, ground := Ground.data }, { on := 7, ground := Ground.chain }], guard := none }) rfl (fun K hK => ?_) ?_
        ·
          go_simp
          go_at_call 43; refine (int_any _ _ (by omega) (by omega)).mono ?_; rintro e w10 ⟨rfl, hk9⟩
          try go_wp2_with fail
          have K9 : Keep w1 w10 := Keep.trans K8 hk9
          have m9 : w10.cell? ⟨w2.heap.size, 3, none⟩ = some (.string ⟨#[112]⟩) := hk9.cell m8
          refine hK.out _ _ ⟨⟨K9, K9.cell c0, K9.cell c1, K9.cell c2, K9.cell c3⟩, m9⟩ (fun hHeld => ?_)
          clear hK K
          try simp only [Act.put, List.setIfInBounds_toArray, List.set_cons_zero, List.set_cons_succ]
          refine wpAnyH_take (i := 19) (oi := { dst := some 25, op := Op.binOp BinOp.add 9 (Operand.tmp 21) (Operand.tmp 24) 9, type := 9, pos := "l1_reports.go:37", after := #[{ on := 15, ground := Ground.data }, { on := 18, ground := Ground.data }], guard := none }) (v := ?v28) rfl (by kernel_rfl) (by kernel_rfl) (by kernel_rfl) (fun _ _ _ h => h) (Or.inl ⟨by rfl, ?hy28⟩) hHeld ?rest28
          case hy28 => (intro w' hSw; (try dsimp only at hSw); go_split_ands; go_simp; try with_reducible rfl)
          try simp only [Act.put, List.setIfInBounds_toArray, List.set_cons_zero, List.set_cons_succ]
          refine wpAnyH_take (i := 20) (oi := { dst := some 2, op := Op.assign (Operand.tmp 25), type := 9, pos := "l1_reports.go:37", after := #[{ on := 19, ground := Ground.data }, { on := 18, ground := Ground.chain }, { on := 0, ground := Ground.phase }, { on := 1, ground := Ground.phase }, { on := 2, ground := Ground.phase }, { on := 3, ground := Ground.phase }, { on := 4, ground := Ground.phase }, { on := 5, ground := Ground.phase }, { on := 6, ground := Ground.phase }, { on := 7, ground := Ground.phase }, { on := 8, ground := Ground.phase }, { on := 9, ground := Ground.phase }, { on := 10, ground := Ground.phase }, { on := 11, ground := Ground.phase }, { on := 12, ground := Ground.phase }, { on := 13, ground := Ground.phase }, { on := 14, ground := Ground.phase }, { on := 15, ground := Ground.phase }, { on := 16, ground := Ground.phase }, { on := 17, ground := Ground.phase }, { on := 18, ground := Ground.phase }, { on := 19, ground := Ground.phase }], guard := none }) (v := ?v29) rfl (by kernel_rfl) (by kernel_rfl) (by kernel_rfl) (fun _ _ _ h => h) (Or.inl ⟨by rfl, ?hy29⟩) hHeld ?rest29
          case hy29 => (intro w' hSw; (try dsimp only at hSw); go_split_ands; go_simp; try with_reducible rfl)
          try simp only [Act.put, List.setIfInBounds_toArray, List.set_cons_zero, List.set_cons_succ]
          refine wpAnyH_done (by kernel_rfl) ?_ _
          go_wp2
          go_ret
          refine ⟨retS ?_, kw.trans K9⟩
          rw [E.out]
          exact bytes_eq (by simp [txt, kLet, dtx_list])
        exact AllReadyH.nil
      exact AllReadyH.nil
    exact AllReadyH.nil
  refine AllReadyH.cons (o := { dst := some 16, op := Op.buildSlice 38 4 #[(0, Operand.const (Value.string { data := #[] })), (1, Operand.const (Value.string { data := #[116] })), (2, Operand.const (Value.string { data := #[114] })), (3, Operand.const (Value.string { data := #[112] }))], type := 38, pos := "l1_reports.go:37", after := #[], guard := none }) rfl (fun K hK => ?_) ?_
  ·
    go_simp
    have K10 : Keep w1 ((w1.alloc (.cells #[.string ⟨#[]⟩, .string ⟨#[116]⟩, .string ⟨#[114]⟩, .string ⟨#[112]⟩] 9)).drew) := Keep.drew (Keep.alloc (Keep.refl w1) _)
    have m10 : ((w1.alloc (.cells #[.string ⟨#[]⟩, .string ⟨#[116]⟩, .string ⟨#[114]⟩, .string ⟨#[112]⟩] 9)).drew).cell? ⟨w1.heap.size, 3, none⟩ = some (.string ⟨#[112]⟩) := by go_simp
    refine hK.out _ _ ⟨K10, K10.cell c0, K10.cell c1, K10.cell c2, K10.cell c3⟩ (fun _ => ?_)
    clear hK K
    try simp only [Act.put, List.setIfInBounds_toArray, List.set_cons_zero, List.set_cons_succ]
    refine wpAnyH_mono (S2 := (fun w' => (fun w' => Keep w1 w' ∧ w'.cell? ⟨w.heap.size, 0, none⟩ = some (.int .i64 s) ∧ w'.cell? ⟨w.heap.size, 1, none⟩ = some (.int .i64 d) ∧ w'.cell? ⟨w.heap.size, 2, none⟩ = some (.int .i64 3) ∧ w'.cell? ⟨w.heap.size, 3, none⟩ = some (.int .i64 v)) w' ∧ w'.cell? ⟨w1.heap.size, 3, none⟩ = some (.string ⟨#[112]⟩))) (fun _ h => h.1) _ _ _ _ ?_
    have hHeld : (fun w' => (fun w' => Keep w1 w' ∧ w'.cell? ⟨w.heap.size, 0, none⟩ = some (.int .i64 s) ∧ w'.cell? ⟨w.heap.size, 1, none⟩ = some (.int .i64 d) ∧ w'.cell? ⟨w.heap.size, 2, none⟩ = some (.int .i64 3) ∧ w'.cell? ⟨w.heap.size, 3, none⟩ = some (.int .i64 v)) w' ∧ w'.cell? ⟨w1.heap.size, 3, none⟩ = some (.string ⟨#[112]⟩)) ((w1.alloc (.cells #[.string ⟨#[]⟩, .string ⟨#[116]⟩, .string ⟨#[114]⟩, .string ⟨#[112]⟩] 9)).drew) := ⟨⟨K10, K10.cell c0, K10.cell c1, K10.cell c2, K10.cell c3⟩, m10⟩
    refine wpAnyH_take (i := 13) (oi := { dst := some 19, op := Op.indexAddr 38 (Operand.tmp 16) (Operand.tmp 18), type := 0, pos := "l1_reports.go:37", after := #[{ on := 10, ground := Ground.data }, { on := 12, ground := Ground.data }], guard := none }) (v := ?v30) rfl (by kernel_rfl) (by kernel_rfl) (by kernel_rfl) (fun _ _ _ h => h) (Or.inl ⟨by rfl, ?hy30⟩) hHeld ?rest30
    case hy30 => (intro w' hSw; (try dsimp only at hSw); go_split_ands; go_simp; try with_reducible rfl)
    try simp only [Act.put, List.setIfInBounds_toArray, List.set_cons_zero, List.set_cons_succ]
    refine wpAnyH_take (i := 14) (oi := { dst := some 20, op := Op.load 9 (Operand.tmp 19), type := 9, pos := "l1_reports.go:37", after := #[{ on := 13, ground := Ground.data }], guard := none }) (v := ?v31) rfl (by kernel_rfl) (by kernel_rfl) (by kernel_rfl) (fun _ _ _ h => h) (Or.inl ⟨by rfl, ?hy31⟩) hHeld ?rest31
    case hy31 => (intro w' hSw; (try dsimp only at hSw); go_split_ands; go_simp; try with_reducible rfl)
    try simp only [Act.put, List.setIfInBounds_toArray, List.set_cons_zero, List.set_cons_succ]
    refine wpAnyH_ready (rs := [2]) (by kernel_rfl) (by simp) ?_
    refine AllReadyH.cons (o := { dst := some 8, op := Op.call { callee := Callee.value (Operand.func 28), args := #[Operand.tmp 7], argTypes := #[3] }, type := 9, pos := "l1_reports.go:37", after := #[{ on := 1, ground := Ground.data }], guard := none }) rfl (fun K hK => ?_) ?_
    ·
      go_simp
      go_at_call 28; refine (dec_any _ _ (by omega) (by omega)).mono ?_; rintro e w12 ⟨rfl, hk11⟩
      try go_wp2_with fail
      have K11 : Keep w1 w12 := Keep.trans K10 hk11
      have m11 : w12.cell? ⟨w1.heap.size, 3, none⟩ = some (.string ⟨#[112]⟩) := hk11.cell m10
      refine hK.out _ _ ⟨⟨K11, K11.cell c0, K11.cell c1, K11.cell c2, K11.cell c3⟩, m11⟩ (fun hHeld => ?_)
      clear hK K
      try simp only [Act.put, List.setIfInBounds_toArray, List.set_cons_zero, List.set_cons_succ]
      refine wpAnyH_take (i := 3) (oi := { dst := some 9, op := Op.binOp BinOp.add 9 (Operand.const (Value.string { data := #[115] })) (Operand.tmp 8) 9, type := 9, pos := "l1_reports.go:37", after := #[{ on := 2, ground := Ground.data }], guard := none }) (v := ?v32) rfl (by kernel_rfl) (by kernel_rfl) (by kernel_rfl) (fun _ _ _ h => h) (Or.inl ⟨by rfl, ?hy32⟩) hHeld ?rest32
      case hy32 => (intro w' hSw; (try dsimp only at hSw); go_split_ands; go_simp; try with_reducible rfl)
      try simp only [Act.put, List.setIfInBounds_toArray, List.set_cons_zero, List.set_cons_succ]
      refine wpAnyH_take (i := 4) (oi := { dst := some 10, op := Op.binOp BinOp.add 9 (Operand.tmp 9) (Operand.const (Value.string { data := #[32, 100] })) 9, type := 9, pos := "l1_reports.go:37", after := #[{ on := 3, ground := Ground.data }], guard := none }) (v := ?v33) rfl (by kernel_rfl) (by kernel_rfl) (by kernel_rfl) (fun _ _ _ h => h) (Or.inl ⟨by rfl, ?hy33⟩) hHeld ?rest33
      case hy33 => (intro w' hSw; (try dsimp only at hSw); go_split_ands; go_simp; try with_reducible rfl)
      try simp only [Act.put, List.setIfInBounds_toArray, List.set_cons_zero, List.set_cons_succ]
      refine wpAnyH_ready (rs := [7]) (by kernel_rfl) (by simp) ?_
      refine AllReadyH.cons (o := { dst := some 13, op := Op.call { callee := Callee.value (Operand.func 28), args := #[Operand.tmp 12], argTypes := #[3] }, type := 9, pos := "l1_reports.go:37", after := #[{ on := 6, ground := Ground.data }, { on := 2, ground := Ground.chain }], guard := none }) rfl (fun K hK => ?_) ?_
      ·
        go_simp
        go_at_call 28; refine (dec_any _ _ (by omega) (by omega)).mono ?_; rintro e w13 ⟨rfl, hk12⟩
        try go_wp2_with fail
        have K12 : Keep w1 w13 := Keep.trans K11 hk12
        have m12 : w13.cell? ⟨w1.heap.size, 3, none⟩ = some (.string ⟨#[112]⟩) := hk12.cell m11
        refine hK.out _ _ ⟨⟨K12, K12.cell c0, K12.cell c1, K12.cell c2, K12.cell c3⟩, m12⟩ (fun hHeld => ?_)
        clear hK K
        try simp only [Act.put, List.setIfInBounds_toArray, List.set_cons_zero, List.set_cons_succ]
        refine wpAnyH_take (i := 8) (oi := { dst := some 14, op := Op.binOp BinOp.add 9 (Operand.tmp 10) (Operand.tmp 13) 9, type := 9, pos := "l1_reports.go:37", after := #[{ on := 4, ground := Ground.data }, { on := 7, ground := Ground.data }], guard := none }) (v := ?v34) rfl (by kernel_rfl) (by kernel_rfl) (by kernel_rfl) (fun _ _ _ h => h) (Or.inl ⟨by rfl, ?hy34⟩) hHeld ?rest34
        case hy34 => (intro w' hSw; (try dsimp only at hSw); go_split_ands; go_simp; try with_reducible rfl)
        try simp only [Act.put, List.setIfInBounds_toArray, List.set_cons_zero, List.set_cons_succ]
        refine wpAnyH_take (i := 9) (oi := { dst := some 15, op := Op.binOp BinOp.add 9 (Operand.tmp 14) (Operand.const (Value.string { data := #[32] })) 9, type := 9, pos := "l1_reports.go:37", after := #[{ on := 8, ground := Ground.data }], guard := none }) (v := ?v35) rfl (by kernel_rfl) (by kernel_rfl) (by kernel_rfl) (fun _ _ _ h => h) (Or.inl ⟨by rfl, ?hy35⟩) hHeld ?rest35
        case hy35 => (intro w' hSw; (try dsimp only at hSw); go_split_ands; go_simp; try with_reducible rfl)
        try simp only [Act.put, List.setIfInBounds_toArray, List.set_cons_zero, List.set_cons_succ]
        refine wpAnyH_take (i := 15) (oi := { dst := some 21, op := Op.binOp BinOp.add 9 (Operand.tmp 15) (Operand.tmp 20) 9, type := 9, pos := "l1_reports.go:37", after := #[{ on := 9, ground := Ground.data }, { on := 14, ground := Ground.data }], guard := none }) (v := ?v36) rfl (by kernel_rfl) (by kernel_rfl) (by kernel_rfl) (fun _ _ _ h => h) (Or.inl ⟨by rfl, ?hy36⟩) hHeld ?rest36
        case hy36 => (intro w' hSw; (try dsimp only at hSw); go_split_ands; go_simp; try with_reducible rfl)
        try simp only [Act.put, List.setIfInBounds_toArray, List.set_cons_zero, List.set_cons_succ]
        refine wpAnyH_ready (rs := [18]) (by kernel_rfl) (by simp) ?_
        refine AllReadyH.cons (o := { dst := some 24, op := Op.call { callee := Callee.value (Operand.func 43), args := #[Operand.tmp 23], argTypes := #[3] }, type := 9, pos := "l1_reports.go:37", after := #[{ on := 17, ground := Ground.data }, { on := 7, ground := Ground.chain }], guard := none }) rfl (fun K hK => ?_) ?_
        ·
          go_simp
          go_at_call 43; refine (int_any _ _ (by omega) (by omega)).mono ?_; rintro e w14 ⟨rfl, hk13⟩
          try go_wp2_with fail
          have K13 : Keep w1 w14 := Keep.trans K12 hk13
          have m13 : w14.cell? ⟨w1.heap.size, 3, none⟩ = some (.string ⟨#[112]⟩) := hk13.cell m12
          refine hK.out _ _ ⟨⟨K13, K13.cell c0, K13.cell c1, K13.cell c2, K13.cell c3⟩, m13⟩ (fun hHeld => ?_)
          clear hK K
          try simp only [Act.put, List.setIfInBounds_toArray, List.set_cons_zero, List.set_cons_succ]
          refine wpAnyH_take (i := 19) (oi := { dst := some 25, op := Op.binOp BinOp.add 9 (Operand.tmp 21) (Operand.tmp 24) 9, type := 9, pos := "l1_reports.go:37", after := #[{ on := 15, ground := Ground.data }, { on := 18, ground := Ground.data }], guard := none }) (v := ?v37) rfl (by kernel_rfl) (by kernel_rfl) (by kernel_rfl) (fun _ _ _ h => h) (Or.inl ⟨by rfl, ?hy37⟩) hHeld ?rest37
          case hy37 => (intro w' hSw; (try dsimp only at hSw); go_split_ands; go_simp; try with_reducible rfl)
          try simp only [Act.put, List.setIfInBounds_toArray, List.set_cons_zero, List.set_cons_succ]
          refine wpAnyH_take (i := 20) (oi := { dst := some 2, op := Op.assign (Operand.tmp 25), type := 9, pos := "l1_reports.go:37", after := #[{ on := 19, ground := Ground.data }, { on := 18, ground := Ground.chain }, { on := 0, ground := Ground.phase }, { on := 1, ground := Ground.phase }, { on := 2, ground := Ground.phase }, { on := 3, ground := Ground.phase }, { on := 4, ground := Ground.phase }, { on := 5, ground := Ground.phase }, { on := 6, ground := Ground.phase }, { on := 7, ground := Ground.phase }, { on := 8, ground := Ground.phase }, { on := 9, ground := Ground.phase }, { on := 10, ground := Ground.phase }, { on := 11, ground := Ground.phase }, { on := 12, ground := Ground.phase }, { on := 13, ground := Ground.phase }, { on := 14, ground := Ground.phase }, { on := 15, ground := Ground.phase }, { on := 16, ground := Ground.phase }, { on := 17, ground := Ground.phase }, { on := 18, ground := Ground.phase }, { on := 19, ground := Ground.phase }], guard := none }) (v := ?v38) rfl (by kernel_rfl) (by kernel_rfl) (by kernel_rfl) (fun _ _ _ h => h) (Or.inl ⟨by rfl, ?hy38⟩) hHeld ?rest38
          case hy38 => (intro w' hSw; (try dsimp only at hSw); go_split_ands; go_simp; try with_reducible rfl)
          try simp only [Act.put, List.setIfInBounds_toArray, List.set_cons_zero, List.set_cons_succ]
          refine wpAnyH_done (by kernel_rfl) ?_ _
          go_wp2
          go_ret
          refine ⟨retS ?_, kw.trans K13⟩
          rw [E.out]
          exact bytes_eq (by simp [txt, kLet, dtx_list])
        exact AllReadyH.nil
      exact AllReadyH.nil
    exact AllReadyH.nil
  exact AllReadyH.nil
end Go.Proofs.YtnemdnidlbekbaaGreatDoor
