/- Histories: the model answers 'hsL'. -/
import Derived.Test.YtlaajompcbmdoabVw
import Derived.Test.YtlaajompcbmdoabVk
import Derived.Test.YtlaajompcbmdoabSg
import Derived.Test.YtlaajompcbmdoabOi
import Derived.OrdersHeld
import Derived.Deep.RegionHeld
import Derived.Deep.RegionHeld3
import Derived.Outline
import Derived.LoopTactic
namespace Go.Proofs.Ytlaajompcbmdoab
open Go.RowKit
set_option linter.unusedVariables false

set_option maxRecDepth 100000 in
set_option maxHeartbeats 4000000 in
theorem hs_spec (a : Option Addr) (cap : Nat) (rs : List R4) (s d t : Int) (w : World) (h : Rs w a rs) (hm : rs.length ≤ 1048576) (hc : rs.length ≤ cap) :
    Calls Try.prog 16 #[.slice a rs.length cap, .agg #[.int .i64 s, .int .i64 d, .int .i64 t]] w (FrPostO (hsL rs s d t) w) := by
  rcases Bool.eq_false_or_eq_true (stB rs) with hs | hs
  case' inr =>
    have H : Hid (hsL rs s d t = []) := Lib.hid (hsL_no hs s d t)
    have HB := Lib.hid hs
    clear hs
    go_enter Try.func16, Try.ntmps16
    go_wp2_with fail
    go_loopw [5, 6] (fun u i wr => ∃ (g c : Nat), i = .int .i64 0 ∧ u = .slice (some ⟨g, 0, none⟩) 0 c ∧ Keep w wr) (fun _ i _ => 1)
    case atStart => exact ⟨_, _, rfl, rfl, ((Keep.refl w).alloc _).alloc _⟩
    case round =>
      obtain ⟨g, c, rfl, rfl, hK⟩ := hrel
      have HS := Lib.hid (sv_spec a cap rs wr (h.keep hK) (by omega))
      rw [HB.out] at HS
      by_cases h0 : 0 < (rs.length : Int)
      · go_wp2_with (go_at_call 27; refine HS.out.mono ?_; rintro e w1 ⟨rfl, k1⟩)
        go_ret
        exact ⟨_, _, by rw [H.out]; rfl, .inl H.out, hK.trans k1⟩
      · go_wp2_with fail
        go_ret
        exact ⟨_, _, by rw [H.out]; rfl, .inl H.out, hK⟩
  have hl := (stB_facts hs).2
  have HO := Lib.hid (hsL_yes hs s d t)
  have HB := Lib.hid hs
  have HSt := Lib.hid (fun n (hn : n < rs.length) => hs_step (stB_facts hs).1 s d t hn)
  obtain ⟨i0, hi, hz0, hz1, hz2⟩ := info_parts infoIntS
  clear hs
  go_enter Try.func16, Try.ntmps16
  go_wp2_with fail
  go_loopw [5, 6] (fun u i wr => ∃ (k n g c : Nat), k ≤ rs.length ∧ i = .int .i64 k ∧ u = .slice (some ⟨g, 0, none⟩) n c ∧ Hid (n = (hsN rs s d t k).length) ∧ Hid (wr.ownsRow (w.heap.size + 1) 3 1 (.slice (some ⟨g, 0, none⟩) n c) n ((hsN rs s d t k).map (Value.int .i64))) ∧ Keep (w.alloc (.cells #[.int .i64 s, .int .i64 d, .int .i64 t] 30)) wr) (fun _ i _ => rs.length - (intOf i).toNat)
  case atStart => exact ⟨0, 0, w.heap.size + 1, 0, by omega, rfl, rfl, Lib.hid rfl, Lib.hid (by simpa [hsN] using World.ownsRow_made (w.alloc (.cells #[.int .i64 s, .int .i64 d, .int .i64 t] 30)) #[] 0 (Nat.le_refl _) (by unfold maxLen; omega) rfl), (Keep.refl _).alloc _⟩
  case round =>
    obtain ⟨k, n, g, c, hk, rfl, rfl, HLN, HW, hK⟩ := hrel
    have hKw : Keep w wr := ((Keep.refl w).alloc _).trans hK
    have hsz : w.heap.size + 1 ≤ wr.heap.size := by have := hK.size; simpa using this
    have kb0 := hK.cell (b := w.heap.size) (o := 0) (v := .int .i64 s) (by go_simp)
    have kb1 := hK.cell (b := w.heap.size) (o := 1) (v := .int .i64 d) (by go_simp)
    have kb2 := hK.cell (b := w.heap.size) (o := 2) (v := .int .i64 t) (by go_simp)
    have hln := hsN_len rs s d t k
    have HS := Lib.hid (sv_spec a cap rs wr (h.keep hKw) (by omega))
    rw [HB.out] at HS
    by_cases hlt : k < rs.length
    · go_wp2_with (go_at_call 27; refine HS.out.mono ?_; rintro e w1 ⟨rfl, k1⟩)
      have HK1 := Lib.hid (hK.trans k1)
      have HOW : Hid (w1.ownsRow (w.heap.size + 1) 3 1 (.slice (some ⟨g, 0, none⟩) n c) n ((hsN rs s d t k).map (Value.int .i64))) := Lib.hid (own_keep HW.out k1)
      obtain ⟨b, off, rfl, hb, hcc⟩ := (h.keep (hKw.trans k1)).at_ hlt
      have HM := Lib.hid (HSt.out k hlt)
      obtain ⟨c0, c1, c2, c3⟩ := hcc
      have HR : Hid (rM s d t (rs.getD k r0) = (decide (rS (rs.getD k r0) = s) && decide (rD (rs.getD k r0) = d) && decide (rK (rs.getD k r0) = t))) := Lib.hid rfl
      generalize rM s d t (rs.getD k r0) = mb at HR HM
      generalize hx0 : rS (rs.getD k r0) = x0 at c0 HR
      generalize hx1 : rD (rs.getD k r0) = x1 at c1 HR
      generalize hx2 : rK (rs.getD k r0) = x2 at c2 HR
      generalize hx3 : rV (rs.getD k r0) = x3 at c3 HM
      clear hx0 hx1 hx2 hx3
      have q0 : (0 : Int) ≤ (k : Int) := by omega
      have p0 : w1.cell? ⟨w.heap.size, 0, none⟩ = some (.int .i64 s) := k1.cell kb0
      have p1 : w1.cell? ⟨w.heap.size, 1, none⟩ = some (.int .i64 d) := k1.cell kb1
      have p2 : w1.cell? ⟨w.heap.size, 2, none⟩ = some (.int .i64 t) := k1.cell kb2
      have hcase : ((x0 == s) = false ∧ mb = false) ∨ ((x0 == s) = true ∧ (x1 == d) = false ∧ mb = false) ∨ ((x0 == s) = true ∧ (x1 == d) = true ∧ (x2 == t) = false ∧ mb = false) ∨ (x0 = s ∧ x1 = d ∧ x2 = t ∧ mb = true) := by
        rw [HR.out]
        by_cases h0 : x0 = s <;> by_cases h1 : x1 = d <;> by_cases h2 : x2 = t <;> simp [h0, h1, h2]
      clear HR
      have hsz1 : w.heap.size < w1.heap.size := World.block_lt_of_cell? w1 _ p0
      rcases hcase with ⟨e0, rfl⟩ | ⟨e0, e1, rfl⟩ | ⟨e0, e1, e2, rfl⟩ | ⟨e0, e1, e2, rfl⟩
      case inr.inr.inr =>
        replace e0 := e0.symm
        replace e1 := e1.symm
        replace e2 := e2.symm
        subst e0
        subst e1
        subst e2
        by_cases h0 : (hsN rs s d t k).length = 0
        · have hn40 : n ≤ 40 := by rw [HLN.out]; omega
          have hnz : n = 0 := by have := HLN.out; omega
          have n0 : ((n : Int) == 0) = true := beq_iff_eq.2 (by omega)
          have nz : (n = 0) = True := eq_true hnz
          clear hnz
          have HSa : ∀ W, Keep w1 W → (W.cell? ⟨w.heap.size, 0, none⟩ = some (.int .i64 s) ∧ W.cell? ⟨w.heap.size, 1, none⟩ = some (.int .i64 d) ∧ W.cell? ⟨w.heap.size, 2, none⟩ = some (.int .i64 t) ∧ W.cell? ⟨b, off + k * 4, none⟩ = some (.int .i64 s) ∧ W.cell? ⟨b, off + k * 4 + 1, none⟩ = some (.int .i64 d) ∧ W.cell? ⟨b, off + k * 4 + 2, none⟩ = some (.int .i64 t) ∧ W.cell? ⟨b, off + k * 4 + 3, none⟩ = some (.int .i64 x3)) := fun W kW => ⟨kW.cell p0, kW.cell p1, kW.cell p2, kW.cell c0, kW.cell c1, kW.cell c2, kW.cell c3⟩
          have HN : Hid (hsN rs s d t (k + 1) = hsN rs s d t k ++ [x3]) := Lib.hid (by rw [HM.out, if_pos ⟨rfl, .inl h0⟩])
          go_wp2_with fail
          refine wp_region_held_drew (S := (fun w' => w'.cell? ⟨w.heap.size, 0, none⟩ = some (.int .i64 s) ∧ w'.cell? ⟨w.heap.size, 1, none⟩ = some (.int .i64 d) ∧ w'.cell? ⟨w.heap.size, 2, none⟩ = some (.int .i64 t) ∧ w'.cell? ⟨b, off + k * 4, none⟩ = some (.int .i64 s) ∧ w'.cell? ⟨b, off + k * 4 + 1, none⟩ = some (.int .i64 d) ∧ w'.cell? ⟨b, off + k * 4 + 2, none⟩ = some (.int .i64 t) ∧ w'.cell? ⟨b, off + k * 4 + 3, none⟩ = some (.int .i64 x3))) (by kernel_rfl) (HSa _ ((Keep.refl w1).drewN 1)) (fun hHeld => ?_)
          refine wpAnyH_take (i := 0) (oi := ({ dst := some 18, op := Op.move (Operand.tmp 0), type := 28, pos := "l42_versions.go:14", after := #[], guard := none })) (v := ?v1) rfl (by kernel_rfl) (by kernel_rfl) (by kernel_rfl) (fun _ _ _ h => h) (Or.inl ⟨by rfl, ?hy1⟩) hHeld ?rest1
          case hy1 => (intro w' hSw; (try dsimp only at hSw); go_split_ands; go_simp; try with_reducible rfl)
          try simp only [Act.put, List.setIfInBounds_toArray, List.set_cons_zero, List.set_cons_succ]
          refine wpAnyH_take (i := 1) (oi := ({ dst := some 19, op := Op.move (Operand.tmp 6), type := 3, pos := "l42_versions.go:14", after := #[], guard := none })) (v := ?v2) rfl (by kernel_rfl) (by kernel_rfl) (by kernel_rfl) (fun _ _ _ h => h) (Or.inl ⟨by rfl, ?hy2⟩) hHeld ?rest2
          case hy2 => (intro w' hSw; (try dsimp only at hSw); go_split_ands; go_simp; try with_reducible rfl)
          try simp only [Act.put, List.setIfInBounds_toArray, List.set_cons_zero, List.set_cons_succ]
          refine wpAnyH_take (i := 2) (oi := ({ dst := some 20, op := Op.indexAddr 28 (Operand.tmp 18) (Operand.tmp 19), type := 0, pos := "l42_versions.go:14", after := #[{ on := 0, ground := Ground.data }, { on := 1, ground := Ground.data }], guard := none })) (v := ?v3) rfl (by kernel_rfl) (by kernel_rfl) (by kernel_rfl) (fun _ _ _ h => h) (Or.inl ⟨by rfl, ?hy3⟩) hHeld ?rest3
          case hy3 => (intro w' hSw; (try dsimp only at hSw); go_split_ands; go_simp; try with_reducible rfl)
          try simp only [Act.put, List.setIfInBounds_toArray, List.set_cons_zero, List.set_cons_succ]
          refine wpAnyH_take (i := 3) (oi := ({ dst := some 21, op := Op.load 46 (Operand.tmp 20), type := 46, pos := "l42_versions.go:14", after := #[{ on := 2, ground := Ground.data }], guard := none })) (v := ?v4) rfl (by kernel_rfl) (by kernel_rfl) (by kernel_rfl) (fun _ _ _ h => h) (Or.inl ⟨by rfl, ?hy4⟩) hHeld ?rest4
          case hy4 => (intro w' hSw; (try dsimp only at hSw); go_split_ands; go_simp; try with_reducible rfl)
          try simp only [Act.put, List.setIfInBounds_toArray, List.set_cons_zero, List.set_cons_succ]
          refine wpAnyH_take (i := 5) (oi := ({ dst := some 23, op := Op.load 30 (Operand.tmp 3), type := 30, pos := "l42_versions.go:14", after := #[], guard := none })) (v := ?v5) rfl (by kernel_rfl) (by kernel_rfl) (by kernel_rfl) (fun _ _ _ h => h) (Or.inl ⟨by rfl, ?hy5⟩) hHeld ?rest5
          case hy5 => (intro w' hSw; (try dsimp only at hSw); go_split_ands; go_simp; try with_reducible rfl)
          try simp only [Act.put, List.setIfInBounds_toArray, List.set_cons_zero, List.set_cons_succ]
          refine wpAnyH_ready (rs := [4]) (by kernel_rfl) (by simp) ?_
          refine AllReadyH.cons (o := ({ dst := some 22, op := Op.call { callee := Callee.value (Operand.func 47), args := #[Operand.tmp 21], argTypes := #[46] }, type := 30, pos := "l42_versions.go:14", after := #[{ on := 3, ground := Ground.data }], guard := none })) rfl (fun K hK => ?_) ?_
          ·
            go_simp
            go_at_call 47; refine (key_spec s d t x3 _).mono ?_; rintro e w2 ⟨rfl, kk'⟩
            try go_wp2_with fail
            have kk : Keep w1 w2 := Keep.trans ((Keep.refl w1).drewN 1) kk'
            refine hK.out _ _ (HSa _ kk) (fun hHeld => ?_)
            clear hK K
            try simp only [Act.put, List.setIfInBounds_toArray, List.set_cons_zero, List.set_cons_succ]
            refine wpAnyH_take (i := 6) (oi := ({ dst := some 24, op := Op.binOp BinOp.eql 30 (Operand.tmp 22) (Operand.tmp 23) 30, type := 4, pos := "l42_versions.go:14", after := #[{ on := 4, ground := Ground.data }, { on := 5, ground := Ground.data }], guard := none })) (v := ?v6) rfl (by kernel_rfl) (by kernel_rfl) (by kernel_rfl) (fun _ _ _ h => h) (Or.inl ⟨by rfl, ?hy6⟩) hHeld ?rest6
            case hy6 => (intro w' hSw; (try dsimp only at hSw); go_split_ands; go_simp; try with_reducible rfl)
            try simp only [Act.put, List.setIfInBounds_toArray, List.set_cons_zero, List.set_cons_succ]
            refine wpAnyH_take (i := 7) (oi := ({ dst := some 25, op := Op.move (Operand.tmp 24), type := 4, pos := "l42_versions.go:14", after := #[{ on := 6, ground := Ground.data }, { on := 4, ground := Ground.chain }], guard := none })) (v := ?v7) rfl (by kernel_rfl) (by kernel_rfl) (by kernel_rfl) (fun _ _ _ h => h) (Or.inl ⟨by rfl, ?hy7⟩) hHeld ?rest7
            case hy7 => (intro w' hSw; (try dsimp only at hSw); go_split_ands; go_simp; try with_reducible rfl)
            try simp only [Act.put, List.setIfInBounds_toArray, List.set_cons_zero, List.set_cons_succ]
            refine wpAnyH_take (i := 8) (oi := ({ dst := some 26, op := Op.move (Operand.tmp 5), type := 26, pos := "l42_versions.go:14", after := #[{ on := 7, ground := Ground.guard }], guard := some (7, true) })) (v := ?v8) rfl (by kernel_rfl) (by kernel_rfl) (by kernel_rfl) (fun _ _ _ h => h) (Or.inl ⟨by rfl, ?hy8⟩) hHeld ?rest8
            case hy8 => (intro w' hSw; (try dsimp only at hSw); go_split_ands; go_simp; try with_reducible rfl)
            try simp only [Act.put, List.setIfInBounds_toArray, List.set_cons_zero, List.set_cons_succ]
            refine wpAnyH_take (i := 9) (oi := ({ dst := some 27, op := Op.call { callee := Callee.builtin Builtin.len, args := #[Operand.tmp 26], argTypes := #[26] }, type := 3, pos := "l42_versions.go:14", after := #[{ on := 8, ground := Ground.data }, { on := 7, ground := Ground.guard }], guard := some (7, true) })) (v := ?v9) rfl (by kernel_rfl) (by kernel_rfl) (by kernel_rfl) (fun _ _ _ h => h) (Or.inl ⟨by rfl, ?hy9⟩) hHeld ?rest9
            case hy9 => (intro w' hSw; (try dsimp only at hSw); go_split_ands; go_simp; try with_reducible rfl)
            try simp only [Act.put, List.setIfInBounds_toArray, List.set_cons_zero, List.set_cons_succ]
            refine wpAnyH_take (i := 10) (oi := ({ dst := some 28, op := Op.binOp BinOp.eql 3 (Operand.tmp 27) (Operand.const (Value.int IntKind.i64 0)) 3, type := 4, pos := "l42_versions.go:14", after := #[{ on := 9, ground := Ground.data }, { on := 7, ground := Ground.guard }], guard := some (7, true) })) (v := ?v10) rfl (by kernel_rfl) (by kernel_rfl) (by kernel_rfl) (fun _ _ _ h => h) (Or.inl ⟨by rfl, ?hy10⟩) hHeld ?rest10
            case hy10 => (intro w' hSw; (try dsimp only at hSw); go_split_ands; go_simp; try with_reducible rfl)
            try simp only [Act.put, List.setIfInBounds_toArray, List.set_cons_zero, List.set_cons_succ]
            refine wpAnyH_take (i := 11) (oi := ({ dst := some 29, op := Op.move (Operand.tmp 28), type := 4, pos := "l42_versions.go:14", after := #[{ on := 10, ground := Ground.data }, { on := 7, ground := Ground.chain }, { on := 7, ground := Ground.guard }], guard := some (7, true) })) (v := ?v11) rfl (by kernel_rfl) (by kernel_rfl) (by kernel_rfl) (fun _ _ _ h => h) (Or.inl ⟨by rfl, ?hy11⟩) hHeld ?rest11
            case hy11 => (intro w' hSw; (try dsimp only at hSw); go_split_ands; go_simp; try with_reducible rfl)
            try simp only [Act.put, List.setIfInBounds_toArray, List.set_cons_zero, List.set_cons_succ]
            refine wpAnyH_take (i := 12) (oi := ({ dst := some 30, op := Op.move (Operand.tmp 5), type := 26, pos := "l42_versions.go:14", after := #[{ on := 11, ground := Ground.guard }], guard := some (11, false) })) (v := undef) rfl (by kernel_rfl) (by kernel_rfl) (by kernel_rfl) (fun _ _ _ h => h) (Or.inr ⟨by first | kernel_rfl | rfl, rfl⟩) hHeld ?rest12
            try simp only [Act.put, List.setIfInBounds_toArray, List.set_cons_zero, List.set_cons_succ]
            refine wpAnyH_take (i := 13) (oi := ({ dst := some 31, op := Op.move (Operand.tmp 5), type := 26, pos := "l42_versions.go:14", after := #[{ on := 11, ground := Ground.guard }], guard := some (11, false) })) (v := undef) rfl (by kernel_rfl) (by kernel_rfl) (by kernel_rfl) (fun _ _ _ h => h) (Or.inr ⟨by first | kernel_rfl | rfl, rfl⟩) hHeld ?rest13
            try simp only [Act.put, List.setIfInBounds_toArray, List.set_cons_zero, List.set_cons_succ]
            refine wpAnyH_take (i := 14) (oi := ({ dst := some 32, op := Op.call { callee := Callee.builtin Builtin.len, args := #[Operand.tmp 31], argTypes := #[26] }, type := 3, pos := "l42_versions.go:14", after := #[{ on := 13, ground := Ground.data }, { on := 11, ground := Ground.guard }], guard := some (11, false) })) (v := undef) rfl (by kernel_rfl) (by kernel_rfl) (by kernel_rfl) (fun _ _ _ h => h) (Or.inr ⟨by first | kernel_rfl | rfl, rfl⟩) hHeld ?rest14
            try simp only [Act.put, List.setIfInBounds_toArray, List.set_cons_zero, List.set_cons_succ]
            refine wpAnyH_take (i := 15) (oi := ({ dst := some 33, op := Op.binOp BinOp.sub 3 (Operand.tmp 32) (Operand.const (Value.int IntKind.i64 1)) 3, type := 3, pos := "l42_versions.go:14", after := #[{ on := 14, ground := Ground.data }, { on := 11, ground := Ground.guard }], guard := some (11, false) })) (v := undef) rfl (by kernel_rfl) (by kernel_rfl) (by kernel_rfl) (fun _ _ _ h => h) (Or.inr ⟨by first | kernel_rfl | rfl, rfl⟩) hHeld ?rest15
            try simp only [Act.put, List.setIfInBounds_toArray, List.set_cons_zero, List.set_cons_succ]
            refine wpAnyH_take (i := 16) (oi := ({ dst := some 34, op := Op.indexAddr 26 (Operand.tmp 30) (Operand.tmp 33), type := 0, pos := "l42_versions.go:14", after := #[{ on := 12, ground := Ground.data }, { on := 15, ground := Ground.data }, { on := 11, ground := Ground.guard }], guard := some (11, false) })) (v := undef) rfl (by kernel_rfl) (by kernel_rfl) (by kernel_rfl) (fun _ _ _ h => h) (Or.inr ⟨by first | kernel_rfl | rfl, rfl⟩) hHeld ?rest16
            try simp only [Act.put, List.setIfInBounds_toArray, List.set_cons_zero, List.set_cons_succ]
            refine wpAnyH_take (i := 17) (oi := ({ dst := some 35, op := Op.load 3 (Operand.tmp 34), type := 3, pos := "l42_versions.go:14", after := #[{ on := 16, ground := Ground.data }, { on := 11, ground := Ground.guard }], guard := some (11, false) })) (v := undef) rfl (by kernel_rfl) (by kernel_rfl) (by kernel_rfl) (fun _ _ _ h => h) (Or.inr ⟨by first | kernel_rfl | rfl, rfl⟩) hHeld ?rest17
            try simp only [Act.put, List.setIfInBounds_toArray, List.set_cons_zero, List.set_cons_succ]
            refine wpAnyH_take (i := 18) (oi := ({ dst := some 36, op := Op.move (Operand.tmp 0), type := 28, pos := "l42_versions.go:14", after := #[{ on := 11, ground := Ground.guard }], guard := some (11, false) })) (v := undef) rfl (by kernel_rfl) (by kernel_rfl) (by kernel_rfl) (fun _ _ _ h => h) (Or.inr ⟨by first | kernel_rfl | rfl, rfl⟩) hHeld ?rest18
            try simp only [Act.put, List.setIfInBounds_toArray, List.set_cons_zero, List.set_cons_succ]
            refine wpAnyH_take (i := 19) (oi := ({ dst := some 37, op := Op.move (Operand.tmp 6), type := 3, pos := "l42_versions.go:14", after := #[{ on := 11, ground := Ground.guard }], guard := some (11, false) })) (v := undef) rfl (by kernel_rfl) (by kernel_rfl) (by kernel_rfl) (fun _ _ _ h => h) (Or.inr ⟨by first | kernel_rfl | rfl, rfl⟩) hHeld ?rest19
            try simp only [Act.put, List.setIfInBounds_toArray, List.set_cons_zero, List.set_cons_succ]
            refine wpAnyH_take (i := 20) (oi := ({ dst := some 38, op := Op.indexAddr 28 (Operand.tmp 36) (Operand.tmp 37), type := 0, pos := "l42_versions.go:14", after := #[{ on := 18, ground := Ground.data }, { on := 19, ground := Ground.data }, { on := 11, ground := Ground.guard }], guard := some (11, false) })) (v := undef) rfl (by kernel_rfl) (by kernel_rfl) (by kernel_rfl) (fun _ _ _ h => h) (Or.inr ⟨by first | kernel_rfl | rfl, rfl⟩) hHeld ?rest20
            try simp only [Act.put, List.setIfInBounds_toArray, List.set_cons_zero, List.set_cons_succ]
            refine wpAnyH_take (i := 21) (oi := ({ dst := some 39, op := Op.fieldAddr 46 (Operand.tmp 38) 3, type := 0, pos := "l42_versions.go:14", after := #[{ on := 20, ground := Ground.data }, { on := 11, ground := Ground.guard }], guard := some (11, false) })) (v := undef) rfl (by kernel_rfl) (by kernel_rfl) (by kernel_rfl) (fun _ _ _ h => h) (Or.inr ⟨by first | kernel_rfl | rfl, rfl⟩) hHeld ?rest21
            try simp only [Act.put, List.setIfInBounds_toArray, List.set_cons_zero, List.set_cons_succ]
            refine wpAnyH_take (i := 22) (oi := ({ dst := some 40, op := Op.load 3 (Operand.tmp 39), type := 3, pos := "l42_versions.go:14", after := #[{ on := 21, ground := Ground.data }, { on := 11, ground := Ground.guard }], guard := some (11, false) })) (v := undef) rfl (by kernel_rfl) (by kernel_rfl) (by kernel_rfl) (fun _ _ _ h => h) (Or.inr ⟨by first | kernel_rfl | rfl, rfl⟩) hHeld ?rest22
            try simp only [Act.put, List.setIfInBounds_toArray, List.set_cons_zero, List.set_cons_succ]
            refine wpAnyH_take (i := 23) (oi := ({ dst := some 41, op := Op.binOp BinOp.neq 3 (Operand.tmp 35) (Operand.tmp 40) 3, type := 4, pos := "l42_versions.go:14", after := #[{ on := 17, ground := Ground.data }, { on := 22, ground := Ground.data }, { on := 11, ground := Ground.guard }], guard := some (11, false) })) (v := undef) rfl (by kernel_rfl) (by kernel_rfl) (by kernel_rfl) (fun _ _ _ h => h) (Or.inr ⟨by first | kernel_rfl | rfl, rfl⟩) hHeld ?rest23
            try simp only [Act.put, List.setIfInBounds_toArray, List.set_cons_zero, List.set_cons_succ]
            refine wpAnyH_take (i := 24) (oi := ({ dst := some 42, op := Op.pick (Operand.tmp 29) (Operand.const (Value.bool true)) (Operand.tmp 41), type := 4, pos := "l42_versions.go:14", after := #[{ on := 11, ground := Ground.data }, { on := 23, ground := Ground.data }, { on := 7, ground := Ground.guard }], guard := some (7, true) })) (v := ?v24) rfl (by kernel_rfl) (by kernel_rfl) (by kernel_rfl) (fun _ _ _ h => h) (Or.inl ⟨by rfl, ?hy24⟩) hHeld ?rest24
            case hy24 => (intro w' hSw; (try dsimp only at hSw); go_split_ands; go_simp; try with_reducible rfl)
            try simp only [Act.put, List.setIfInBounds_toArray, List.set_cons_zero, List.set_cons_succ]
            refine wpAnyH_take (i := 25) (oi := ({ dst := some 43, op := Op.pick (Operand.tmp 25) (Operand.tmp 42) (Operand.const (Value.bool false)), type := 4, pos := "l42_versions.go:14", after := #[{ on := 7, ground := Ground.data }, { on := 24, ground := Ground.data }], guard := none })) (v := ?v25) rfl (by kernel_rfl) (by kernel_rfl) (by kernel_rfl) (fun _ _ _ h => h) (Or.inl ⟨by rfl, ?hy25⟩) hHeld ?rest25
            case hy25 => (intro w' hSw; (try dsimp only at hSw); go_split_ands; go_simp; try with_reducible rfl)
            try simp only [Act.put, List.setIfInBounds_toArray, List.set_cons_zero, List.set_cons_succ]
            refine wpAnyH_done (by kernel_rfl) ?_ _
            have hown : w2.ownsRow (w.heap.size + 1) 3 1 (.slice (some ⟨g, 0, none⟩) n c) n ((hsN rs s d t k).map (Value.int .i64)) := own_keep HOW.out kk
            have hs2 : w.heap.size + 1 ≤ w2.heap.size := by have := (hK.trans k1).trans kk |>.size; simpa using this
            have c3' := kk.cell c3
            have HK2 := Lib.hid ((hK.trans k1).trans kk)
            have HLN2 := Lib.hid (HLN.out)
            clear HSa HOW HM
            go_wp2_with (at_builtin; refine wpList_append_own _ rfl _ _ 26 rfl (w.heap.size + 1) 3 i0 (.int .i64 0) 1 8 Try.underlying26 hi hz0 hz1 hz2 rfl (by decide) _ _ _ rfl (hown.alloc _) ⟨w2.heap.size, 0, none⟩ 1 1 [.int .i64 x3] rfl rfl ?c1az ?c2az ?c3az ?c4az ?c5az ?_)
            case c1az =>
              intro j u hj
              match j, hj with
              | 0, hj => simp at hj; subst hj; simp [Addr.add]
            case c2az => first | rfl | (intro u hu; simp at hu; subst hu; rfl)
            case c3az => unfold maxLen; omega
            case c4az => omega
            case c5az => first | omega | (simp; omega)
            intro v' w5 hown' hgrow hnil
            obtain ⟨g', c', rfl, hbg, hlg⟩ := hown'.form (by omega)
            have HNew : Hid (w5.ownsRow (w.heap.size + 1) 3 1 (.slice (some ⟨g', 0, none⟩) (n + 1) c') (n + 1) ((hsN rs s d t (k + 1)).map (Value.int .i64))) := Lib.hid (by rw [HN.out]; simpa using hown')
            have HN2 : Hid (n + 1 = (hsN rs s d t (k + 1)).length) := Lib.hid (by rw [HN.out, List.length_append, ← HLN2.out]; rfl)
            have HK5 : Hid (Keep (w.alloc (.cells #[.int .i64 s, .int .i64 d, .int .i64 t] 30)) w5) := Lib.hid (Below.grown (HK2.out.alloc (.cells #[.int .i64 x3] 3)) hgrow (HK2.out.alloc (.cells #[.int .i64 x3] 3)).size (fun q hq => by have := (hown.lt q hq).1; simpa using this))
            clear hown' hgrow hnil hown
            go_wp2
            go_roundw
            case rel => exact ⟨k + 1, n + 1, g', c', by omega, by go_num, rfl, HN2, HNew, HK5.out⟩
            case measure => simp [intOf]; omega
          exact AllReadyH.nil
        · have hn40 : n ≤ 40 := by rw [HLN.out]; omega
          obtain ⟨m, hm1⟩ : ∃ m, n = m + 1 := ⟨n - 1, by have := HLN.out; omega⟩
          have hmn : m < n := by omega
          have nw : IntKind.i64.wrap ((n : Int) - 1) = (m : Int) := by rw [show (n : Int) - 1 = (m : Int) by omega]; exact IntWalk.i64_in _ ⟨by omega, by omega⟩
          have n0 : ((n : Int) == 0) = false := beq_eq_false_iff_ne.2 (by omega)
          have m0 : (0 : Int) ≤ (m : Int) := by omega
          have mn : (m : Int) < (n : Int) := by omega
          have HMl : Hid ((hsN rs s d t k).length - 1 = m) := Lib.hid (by rw [← HLN.out]; omega)
          rw [HMl.out] at HM
          have cy : w1.cell? ⟨g, m, none⟩ = some (.int .i64 ((hsN rs s d t k).getD m 0)) := by
            have := World.ownsRow.cellAt HOW.out m (by omega)
            rw [this]
            have hml : m < (hsN rs s d t k).length := by rw [← HLN.out]; omega
            simp [hml, List.getD_eq_getElem?_getD]
          obtain ⟨y, hy⟩ : ∃ y, (hsN rs s d t k).getD m 0 = y := ⟨_, rfl⟩
          rw [hy] at HM cy
          clear hy HMl
          have HM1 := Lib.hid hm1
          have hn0 : ¬ (n = 0) := by omega
          clear hm1
          by_cases hyx : y = x3
          · subst hyx
            have yx : (y != y) = false := by simp
            have HN : Hid (hsN rs s d t (k + 1) = hsN rs s d t k) := Lib.hid (by rw [HM.out, if_neg (by rintro ⟨_, h | h⟩; exact h0 h; exact h rfl)])
            have HSa : ∀ W, Keep w1 W → (W.cell? ⟨w.heap.size, 0, none⟩ = some (.int .i64 s) ∧ W.cell? ⟨w.heap.size, 1, none⟩ = some (.int .i64 d) ∧ W.cell? ⟨w.heap.size, 2, none⟩ = some (.int .i64 t) ∧ W.cell? ⟨b, off + k * 4, none⟩ = some (.int .i64 s) ∧ W.cell? ⟨b, off + k * 4 + 1, none⟩ = some (.int .i64 d) ∧ W.cell? ⟨b, off + k * 4 + 2, none⟩ = some (.int .i64 t) ∧ W.cell? ⟨b, off + k * 4 + 3, none⟩ = some (.int .i64 y) ∧ W.cell? ⟨g, m, none⟩ = some (.int .i64 y)) := fun W kW => ⟨kW.cell p0, kW.cell p1, kW.cell p2, kW.cell c0, kW.cell c1, kW.cell c2, kW.cell c3, kW.cell cy⟩
            go_wp2_with fail
            refine wp_region_held_drew (S := (fun w' => w'.cell? ⟨w.heap.size, 0, none⟩ = some (.int .i64 s) ∧ w'.cell? ⟨w.heap.size, 1, none⟩ = some (.int .i64 d) ∧ w'.cell? ⟨w.heap.size, 2, none⟩ = some (.int .i64 t) ∧ w'.cell? ⟨b, off + k * 4, none⟩ = some (.int .i64 s) ∧ w'.cell? ⟨b, off + k * 4 + 1, none⟩ = some (.int .i64 d) ∧ w'.cell? ⟨b, off + k * 4 + 2, none⟩ = some (.int .i64 t) ∧ w'.cell? ⟨b, off + k * 4 + 3, none⟩ = some (.int .i64 y) ∧ w'.cell? ⟨g, m, none⟩ = some (.int .i64 y))) (by kernel_rfl) (HSa _ ((Keep.refl w1).drewN 1)) (fun hHeld => ?_)
            refine wpAnyH_take (i := 0) (oi := ({ dst := some 18, op := Op.move (Operand.tmp 0), type := 28, pos := "l42_versions.go:14", after := #[], guard := none })) (v := ?v26) rfl (by kernel_rfl) (by kernel_rfl) (by kernel_rfl) (fun _ _ _ h => h) (Or.inl ⟨by rfl, ?hy26⟩) hHeld ?rest26
            case hy26 => (intro w' hSw; (try dsimp only at hSw); go_split_ands; go_simp; try with_reducible rfl)
            try simp only [Act.put, List.setIfInBounds_toArray, List.set_cons_zero, List.set_cons_succ]
            refine wpAnyH_take (i := 1) (oi := ({ dst := some 19, op := Op.move (Operand.tmp 6), type := 3, pos := "l42_versions.go:14", after := #[], guard := none })) (v := ?v27) rfl (by kernel_rfl) (by kernel_rfl) (by kernel_rfl) (fun _ _ _ h => h) (Or.inl ⟨by rfl, ?hy27⟩) hHeld ?rest27
            case hy27 => (intro w' hSw; (try dsimp only at hSw); go_split_ands; go_simp; try with_reducible rfl)
            try simp only [Act.put, List.setIfInBounds_toArray, List.set_cons_zero, List.set_cons_succ]
            refine wpAnyH_take (i := 2) (oi := ({ dst := some 20, op := Op.indexAddr 28 (Operand.tmp 18) (Operand.tmp 19), type := 0, pos := "l42_versions.go:14", after := #[{ on := 0, ground := Ground.data }, { on := 1, ground := Ground.data }], guard := none })) (v := ?v28) rfl (by kernel_rfl) (by kernel_rfl) (by kernel_rfl) (fun _ _ _ h => h) (Or.inl ⟨by rfl, ?hy28⟩) hHeld ?rest28
            case hy28 => (intro w' hSw; (try dsimp only at hSw); go_split_ands; go_simp; try with_reducible rfl)
            try simp only [Act.put, List.setIfInBounds_toArray, List.set_cons_zero, List.set_cons_succ]
            refine wpAnyH_take (i := 3) (oi := ({ dst := some 21, op := Op.load 46 (Operand.tmp 20), type := 46, pos := "l42_versions.go:14", after := #[{ on := 2, ground := Ground.data }], guard := none })) (v := ?v29) rfl (by kernel_rfl) (by kernel_rfl) (by kernel_rfl) (fun _ _ _ h => h) (Or.inl ⟨by rfl, ?hy29⟩) hHeld ?rest29
            case hy29 => (intro w' hSw; (try dsimp only at hSw); go_split_ands; go_simp; try with_reducible rfl)
            try simp only [Act.put, List.setIfInBounds_toArray, List.set_cons_zero, List.set_cons_succ]
            refine wpAnyH_take (i := 5) (oi := ({ dst := some 23, op := Op.load 30 (Operand.tmp 3), type := 30, pos := "l42_versions.go:14", after := #[], guard := none })) (v := ?v30) rfl (by kernel_rfl) (by kernel_rfl) (by kernel_rfl) (fun _ _ _ h => h) (Or.inl ⟨by rfl, ?hy30⟩) hHeld ?rest30
            case hy30 => (intro w' hSw; (try dsimp only at hSw); go_split_ands; go_simp; try with_reducible rfl)
            try simp only [Act.put, List.setIfInBounds_toArray, List.set_cons_zero, List.set_cons_succ]
            refine wpAnyH_ready (rs := [4]) (by kernel_rfl) (by simp) ?_
            refine AllReadyH.cons (o := ({ dst := some 22, op := Op.call { callee := Callee.value (Operand.func 47), args := #[Operand.tmp 21], argTypes := #[46] }, type := 30, pos := "l42_versions.go:14", after := #[{ on := 3, ground := Ground.data }], guard := none })) rfl (fun K hK => ?_) ?_
            ·
              go_simp
              go_at_call 47; refine (key_spec s d t y _).mono ?_; rintro e w2 ⟨rfl, kk'⟩
              try go_wp2_with fail
              have kk : Keep w1 w2 := Keep.trans ((Keep.refl w1).drewN 1) kk'
              refine hK.out _ _ (HSa _ kk) (fun hHeld => ?_)
              clear hK K
              try simp only [Act.put, List.setIfInBounds_toArray, List.set_cons_zero, List.set_cons_succ]
              refine wpAnyH_take (i := 6) (oi := ({ dst := some 24, op := Op.binOp BinOp.eql 30 (Operand.tmp 22) (Operand.tmp 23) 30, type := 4, pos := "l42_versions.go:14", after := #[{ on := 4, ground := Ground.data }, { on := 5, ground := Ground.data }], guard := none })) (v := ?v31) rfl (by kernel_rfl) (by kernel_rfl) (by kernel_rfl) (fun _ _ _ h => h) (Or.inl ⟨by rfl, ?hy31⟩) hHeld ?rest31
              case hy31 => (intro w' hSw; (try dsimp only at hSw); go_split_ands; go_simp; try with_reducible rfl)
              try simp only [Act.put, List.setIfInBounds_toArray, List.set_cons_zero, List.set_cons_succ]
              refine wpAnyH_take (i := 7) (oi := ({ dst := some 25, op := Op.move (Operand.tmp 24), type := 4, pos := "l42_versions.go:14", after := #[{ on := 6, ground := Ground.data }, { on := 4, ground := Ground.chain }], guard := none })) (v := ?v32) rfl (by kernel_rfl) (by kernel_rfl) (by kernel_rfl) (fun _ _ _ h => h) (Or.inl ⟨by rfl, ?hy32⟩) hHeld ?rest32
              case hy32 => (intro w' hSw; (try dsimp only at hSw); go_split_ands; go_simp; try with_reducible rfl)
              try simp only [Act.put, List.setIfInBounds_toArray, List.set_cons_zero, List.set_cons_succ]
              refine wpAnyH_take (i := 8) (oi := ({ dst := some 26, op := Op.move (Operand.tmp 5), type := 26, pos := "l42_versions.go:14", after := #[{ on := 7, ground := Ground.guard }], guard := some (7, true) })) (v := ?v33) rfl (by kernel_rfl) (by kernel_rfl) (by kernel_rfl) (fun _ _ _ h => h) (Or.inl ⟨by rfl, ?hy33⟩) hHeld ?rest33
              case hy33 => (intro w' hSw; (try dsimp only at hSw); go_split_ands; go_simp; try with_reducible rfl)
              try simp only [Act.put, List.setIfInBounds_toArray, List.set_cons_zero, List.set_cons_succ]
              refine wpAnyH_take (i := 9) (oi := ({ dst := some 27, op := Op.call { callee := Callee.builtin Builtin.len, args := #[Operand.tmp 26], argTypes := #[26] }, type := 3, pos := "l42_versions.go:14", after := #[{ on := 8, ground := Ground.data }, { on := 7, ground := Ground.guard }], guard := some (7, true) })) (v := ?v34) rfl (by kernel_rfl) (by kernel_rfl) (by kernel_rfl) (fun _ _ _ h => h) (Or.inl ⟨by rfl, ?hy34⟩) hHeld ?rest34
              case hy34 => (intro w' hSw; (try dsimp only at hSw); go_split_ands; go_simp; try with_reducible rfl)
              try simp only [Act.put, List.setIfInBounds_toArray, List.set_cons_zero, List.set_cons_succ]
              refine wpAnyH_take (i := 10) (oi := ({ dst := some 28, op := Op.binOp BinOp.eql 3 (Operand.tmp 27) (Operand.const (Value.int IntKind.i64 0)) 3, type := 4, pos := "l42_versions.go:14", after := #[{ on := 9, ground := Ground.data }, { on := 7, ground := Ground.guard }], guard := some (7, true) })) (v := ?v35) rfl (by kernel_rfl) (by kernel_rfl) (by kernel_rfl) (fun _ _ _ h => h) (Or.inl ⟨by rfl, ?hy35⟩) hHeld ?rest35
              case hy35 => (intro w' hSw; (try dsimp only at hSw); go_split_ands; go_simp; try with_reducible rfl)
              try simp only [Act.put, List.setIfInBounds_toArray, List.set_cons_zero, List.set_cons_succ]
              refine wpAnyH_take (i := 11) (oi := ({ dst := some 29, op := Op.move (Operand.tmp 28), type := 4, pos := "l42_versions.go:14", after := #[{ on := 10, ground := Ground.data }, { on := 7, ground := Ground.chain }, { on := 7, ground := Ground.guard }], guard := some (7, true) })) (v := ?v36) rfl (by kernel_rfl) (by kernel_rfl) (by kernel_rfl) (fun _ _ _ h => h) (Or.inl ⟨by rfl, ?hy36⟩) hHeld ?rest36
              case hy36 => (intro w' hSw; (try dsimp only at hSw); go_split_ands; go_simp; try with_reducible rfl)
              try simp only [Act.put, List.setIfInBounds_toArray, List.set_cons_zero, List.set_cons_succ]
              refine wpAnyH_take (i := 12) (oi := ({ dst := some 30, op := Op.move (Operand.tmp 5), type := 26, pos := "l42_versions.go:14", after := #[{ on := 11, ground := Ground.guard }], guard := some (11, false) })) (v := ?v37) rfl (by kernel_rfl) (by kernel_rfl) (by kernel_rfl) (fun _ _ _ h => h) (Or.inl ⟨by rfl, ?hy37⟩) hHeld ?rest37
              case hy37 => (intro w' hSw; (try dsimp only at hSw); go_split_ands; go_simp; try with_reducible rfl)
              try simp only [Act.put, List.setIfInBounds_toArray, List.set_cons_zero, List.set_cons_succ]
              refine wpAnyH_take (i := 13) (oi := ({ dst := some 31, op := Op.move (Operand.tmp 5), type := 26, pos := "l42_versions.go:14", after := #[{ on := 11, ground := Ground.guard }], guard := some (11, false) })) (v := ?v38) rfl (by kernel_rfl) (by kernel_rfl) (by kernel_rfl) (fun _ _ _ h => h) (Or.inl ⟨by rfl, ?hy38⟩) hHeld ?rest38
              case hy38 => (intro w' hSw; (try dsimp only at hSw); go_split_ands; go_simp; try with_reducible rfl)
              try simp only [Act.put, List.setIfInBounds_toArray, List.set_cons_zero, List.set_cons_succ]
              refine wpAnyH_take (i := 14) (oi := ({ dst := some 32, op := Op.call { callee := Callee.builtin Builtin.len, args := #[Operand.tmp 31], argTypes := #[26] }, type := 3, pos := "l42_versions.go:14", after := #[{ on := 13, ground := Ground.data }, { on := 11, ground := Ground.guard }], guard := some (11, false) })) (v := ?v39) rfl (by kernel_rfl) (by kernel_rfl) (by kernel_rfl) (fun _ _ _ h => h) (Or.inl ⟨by rfl, ?hy39⟩) hHeld ?rest39
              case hy39 => (intro w' hSw; (try dsimp only at hSw); go_split_ands; go_simp; try with_reducible rfl)
              try simp only [Act.put, List.setIfInBounds_toArray, List.set_cons_zero, List.set_cons_succ]
              refine wpAnyH_take (i := 15) (oi := ({ dst := some 33, op := Op.binOp BinOp.sub 3 (Operand.tmp 32) (Operand.const (Value.int IntKind.i64 1)) 3, type := 3, pos := "l42_versions.go:14", after := #[{ on := 14, ground := Ground.data }, { on := 11, ground := Ground.guard }], guard := some (11, false) })) (v := ?v40) rfl (by kernel_rfl) (by kernel_rfl) (by kernel_rfl) (fun _ _ _ h => h) (Or.inl ⟨by rfl, ?hy40⟩) hHeld ?rest40
              case hy40 => (intro w' hSw; (try dsimp only at hSw); go_split_ands; go_simp; try with_reducible rfl)
              try simp only [Act.put, List.setIfInBounds_toArray, List.set_cons_zero, List.set_cons_succ]
              refine wpAnyH_take (i := 16) (oi := ({ dst := some 34, op := Op.indexAddr 26 (Operand.tmp 30) (Operand.tmp 33), type := 0, pos := "l42_versions.go:14", after := #[{ on := 12, ground := Ground.data }, { on := 15, ground := Ground.data }, { on := 11, ground := Ground.guard }], guard := some (11, false) })) (v := ?v41) rfl (by kernel_rfl) (by kernel_rfl) (by kernel_rfl) (fun _ _ _ h => h) (Or.inl ⟨by rfl, ?hy41⟩) hHeld ?rest41
              case hy41 => (intro w' hSw; (try dsimp only at hSw); go_split_ands; go_simp; try with_reducible rfl)
              try simp only [Act.put, List.setIfInBounds_toArray, List.set_cons_zero, List.set_cons_succ]
              refine wpAnyH_take (i := 17) (oi := ({ dst := some 35, op := Op.load 3 (Operand.tmp 34), type := 3, pos := "l42_versions.go:14", after := #[{ on := 16, ground := Ground.data }, { on := 11, ground := Ground.guard }], guard := some (11, false) })) (v := ?v42) rfl (by kernel_rfl) (by kernel_rfl) (by kernel_rfl) (fun _ _ _ h => h) (Or.inl ⟨by rfl, ?hy42⟩) hHeld ?rest42
              case hy42 => (intro w' hSw; (try dsimp only at hSw); go_split_ands; go_simp; try with_reducible rfl)
              try simp only [Act.put, List.setIfInBounds_toArray, List.set_cons_zero, List.set_cons_succ]
              refine wpAnyH_take (i := 18) (oi := ({ dst := some 36, op := Op.move (Operand.tmp 0), type := 28, pos := "l42_versions.go:14", after := #[{ on := 11, ground := Ground.guard }], guard := some (11, false) })) (v := ?v43) rfl (by kernel_rfl) (by kernel_rfl) (by kernel_rfl) (fun _ _ _ h => h) (Or.inl ⟨by rfl, ?hy43⟩) hHeld ?rest43
              case hy43 => (intro w' hSw; (try dsimp only at hSw); go_split_ands; go_simp; try with_reducible rfl)
              try simp only [Act.put, List.setIfInBounds_toArray, List.set_cons_zero, List.set_cons_succ]
              refine wpAnyH_take (i := 19) (oi := ({ dst := some 37, op := Op.move (Operand.tmp 6), type := 3, pos := "l42_versions.go:14", after := #[{ on := 11, ground := Ground.guard }], guard := some (11, false) })) (v := ?v44) rfl (by kernel_rfl) (by kernel_rfl) (by kernel_rfl) (fun _ _ _ h => h) (Or.inl ⟨by rfl, ?hy44⟩) hHeld ?rest44
              case hy44 => (intro w' hSw; (try dsimp only at hSw); go_split_ands; go_simp; try with_reducible rfl)
              try simp only [Act.put, List.setIfInBounds_toArray, List.set_cons_zero, List.set_cons_succ]
              refine wpAnyH_take (i := 20) (oi := ({ dst := some 38, op := Op.indexAddr 28 (Operand.tmp 36) (Operand.tmp 37), type := 0, pos := "l42_versions.go:14", after := #[{ on := 18, ground := Ground.data }, { on := 19, ground := Ground.data }, { on := 11, ground := Ground.guard }], guard := some (11, false) })) (v := ?v45) rfl (by kernel_rfl) (by kernel_rfl) (by kernel_rfl) (fun _ _ _ h => h) (Or.inl ⟨by rfl, ?hy45⟩) hHeld ?rest45
              case hy45 => (intro w' hSw; (try dsimp only at hSw); go_split_ands; go_simp; try with_reducible rfl)
              try simp only [Act.put, List.setIfInBounds_toArray, List.set_cons_zero, List.set_cons_succ]
              refine wpAnyH_take (i := 21) (oi := ({ dst := some 39, op := Op.fieldAddr 46 (Operand.tmp 38) 3, type := 0, pos := "l42_versions.go:14", after := #[{ on := 20, ground := Ground.data }, { on := 11, ground := Ground.guard }], guard := some (11, false) })) (v := ?v46) rfl (by kernel_rfl) (by kernel_rfl) (by kernel_rfl) (fun _ _ _ h => h) (Or.inl ⟨by rfl, ?hy46⟩) hHeld ?rest46
              case hy46 => (intro w' hSw; (try dsimp only at hSw); go_split_ands; go_simp; try with_reducible rfl)
              try simp only [Act.put, List.setIfInBounds_toArray, List.set_cons_zero, List.set_cons_succ]
              refine wpAnyH_take (i := 22) (oi := ({ dst := some 40, op := Op.load 3 (Operand.tmp 39), type := 3, pos := "l42_versions.go:14", after := #[{ on := 21, ground := Ground.data }, { on := 11, ground := Ground.guard }], guard := some (11, false) })) (v := ?v47) rfl (by kernel_rfl) (by kernel_rfl) (by kernel_rfl) (fun _ _ _ h => h) (Or.inl ⟨by rfl, ?hy47⟩) hHeld ?rest47
              case hy47 => (intro w' hSw; (try dsimp only at hSw); go_split_ands; go_simp; try with_reducible rfl)
              try simp only [Act.put, List.setIfInBounds_toArray, List.set_cons_zero, List.set_cons_succ]
              refine wpAnyH_take (i := 23) (oi := ({ dst := some 41, op := Op.binOp BinOp.neq 3 (Operand.tmp 35) (Operand.tmp 40) 3, type := 4, pos := "l42_versions.go:14", after := #[{ on := 17, ground := Ground.data }, { on := 22, ground := Ground.data }, { on := 11, ground := Ground.guard }], guard := some (11, false) })) (v := ?v48) rfl (by kernel_rfl) (by kernel_rfl) (by kernel_rfl) (fun _ _ _ h => h) (Or.inl ⟨by rfl, ?hy48⟩) hHeld ?rest48
              case hy48 => (intro w' hSw; (try dsimp only at hSw); go_split_ands; go_simp; try with_reducible rfl)
              try simp only [Act.put, List.setIfInBounds_toArray, List.set_cons_zero, List.set_cons_succ]
              refine wpAnyH_take (i := 24) (oi := ({ dst := some 42, op := Op.pick (Operand.tmp 29) (Operand.const (Value.bool true)) (Operand.tmp 41), type := 4, pos := "l42_versions.go:14", after := #[{ on := 11, ground := Ground.data }, { on := 23, ground := Ground.data }, { on := 7, ground := Ground.guard }], guard := some (7, true) })) (v := ?v49) rfl (by kernel_rfl) (by kernel_rfl) (by kernel_rfl) (fun _ _ _ h => h) (Or.inl ⟨by rfl, ?hy49⟩) hHeld ?rest49
              case hy49 => (intro w' hSw; (try dsimp only at hSw); go_split_ands; go_simp; try with_reducible rfl)
              try simp only [Act.put, List.setIfInBounds_toArray, List.set_cons_zero, List.set_cons_succ]
              refine wpAnyH_take (i := 25) (oi := ({ dst := some 43, op := Op.pick (Operand.tmp 25) (Operand.tmp 42) (Operand.const (Value.bool false)), type := 4, pos := "l42_versions.go:14", after := #[{ on := 7, ground := Ground.data }, { on := 24, ground := Ground.data }], guard := none })) (v := ?v50) rfl (by kernel_rfl) (by kernel_rfl) (by kernel_rfl) (fun _ _ _ h => h) (Or.inl ⟨by rfl, ?hy50⟩) hHeld ?rest50
              case hy50 => (intro w' hSw; (try dsimp only at hSw); go_split_ands; go_simp; try with_reducible rfl)
              try simp only [Act.put, List.setIfInBounds_toArray, List.set_cons_zero, List.set_cons_succ]
              refine wpAnyH_done (by kernel_rfl) ?_ _
              have HO2 : Hid (w2.ownsRow (w.heap.size + 1) 3 1 (.slice (some ⟨g, 0, none⟩) n c) n ((hsN rs s d t k).map (Value.int .i64))) := Lib.hid (own_keep HOW.out kk)
              clear HSa HOW HM
              go_wp2
              go_roundw
              case rel => exact ⟨k + 1, n, g, c, by omega, by go_num, rfl, Lib.hid (by rw [HN.out]; exact HLN.out), Lib.hid (by rw [HN.out]; exact HO2.out), (hK.trans k1).trans kk⟩
              case measure => simp [intOf]; omega
            exact AllReadyH.nil
          · have yx : (y != x3) = true := bne_iff_ne.2 hyx
            have HN : Hid (hsN rs s d t (k + 1) = hsN rs s d t k ++ [x3]) := Lib.hid (by rw [HM.out, if_pos ⟨rfl, .inr hyx⟩])
            have HSa : ∀ W, Keep w1 W → (W.cell? ⟨w.heap.size, 0, none⟩ = some (.int .i64 s) ∧ W.cell? ⟨w.heap.size, 1, none⟩ = some (.int .i64 d) ∧ W.cell? ⟨w.heap.size, 2, none⟩ = some (.int .i64 t) ∧ W.cell? ⟨b, off + k * 4, none⟩ = some (.int .i64 s) ∧ W.cell? ⟨b, off + k * 4 + 1, none⟩ = some (.int .i64 d) ∧ W.cell? ⟨b, off + k * 4 + 2, none⟩ = some (.int .i64 t) ∧ W.cell? ⟨b, off + k * 4 + 3, none⟩ = some (.int .i64 x3) ∧ W.cell? ⟨g, m, none⟩ = some (.int .i64 y)) := fun W kW => ⟨kW.cell p0, kW.cell p1, kW.cell p2, kW.cell c0, kW.cell c1, kW.cell c2, kW.cell c3, kW.cell cy⟩
            go_wp2_with fail
            refine wp_region_held_drew (S := (fun w' => w'.cell? ⟨w.heap.size, 0, none⟩ = some (.int .i64 s) ∧ w'.cell? ⟨w.heap.size, 1, none⟩ = some (.int .i64 d) ∧ w'.cell? ⟨w.heap.size, 2, none⟩ = some (.int .i64 t) ∧ w'.cell? ⟨b, off + k * 4, none⟩ = some (.int .i64 s) ∧ w'.cell? ⟨b, off + k * 4 + 1, none⟩ = some (.int .i64 d) ∧ w'.cell? ⟨b, off + k * 4 + 2, none⟩ = some (.int .i64 t) ∧ w'.cell? ⟨b, off + k * 4 + 3, none⟩ = some (.int .i64 x3) ∧ w'.cell? ⟨g, m, none⟩ = some (.int .i64 y))) (by kernel_rfl) (HSa _ ((Keep.refl w1).drewN 1)) (fun hHeld => ?_)
            refine wpAnyH_take (i := 0) (oi := ({ dst := some 18, op := Op.move (Operand.tmp 0), type := 28, pos := "l42_versions.go:14", after := #[], guard := none })) (v := ?v51) rfl (by kernel_rfl) (by kernel_rfl) (by kernel_rfl) (fun _ _ _ h => h) (Or.inl ⟨by rfl, ?hy51⟩) hHeld ?rest51
            case hy51 => (intro w' hSw; (try dsimp only at hSw); go_split_ands; go_simp; try with_reducible rfl)
            try simp only [Act.put, List.setIfInBounds_toArray, List.set_cons_zero, List.set_cons_succ]
            refine wpAnyH_take (i := 1) (oi := ({ dst := some 19, op := Op.move (Operand.tmp 6), type := 3, pos := "l42_versions.go:14", after := #[], guard := none })) (v := ?v52) rfl (by kernel_rfl) (by kernel_rfl) (by kernel_rfl) (fun _ _ _ h => h) (Or.inl ⟨by rfl, ?hy52⟩) hHeld ?rest52
            case hy52 => (intro w' hSw; (try dsimp only at hSw); go_split_ands; go_simp; try with_reducible rfl)
            try simp only [Act.put, List.setIfInBounds_toArray, List.set_cons_zero, List.set_cons_succ]
            refine wpAnyH_take (i := 2) (oi := ({ dst := some 20, op := Op.indexAddr 28 (Operand.tmp 18) (Operand.tmp 19), type := 0, pos := "l42_versions.go:14", after := #[{ on := 0, ground := Ground.data }, { on := 1, ground := Ground.data }], guard := none })) (v := ?v53) rfl (by kernel_rfl) (by kernel_rfl) (by kernel_rfl) (fun _ _ _ h => h) (Or.inl ⟨by rfl, ?hy53⟩) hHeld ?rest53
            case hy53 => (intro w' hSw; (try dsimp only at hSw); go_split_ands; go_simp; try with_reducible rfl)
            try simp only [Act.put, List.setIfInBounds_toArray, List.set_cons_zero, List.set_cons_succ]
            refine wpAnyH_take (i := 3) (oi := ({ dst := some 21, op := Op.load 46 (Operand.tmp 20), type := 46, pos := "l42_versions.go:14", after := #[{ on := 2, ground := Ground.data }], guard := none })) (v := ?v54) rfl (by kernel_rfl) (by kernel_rfl) (by kernel_rfl) (fun _ _ _ h => h) (Or.inl ⟨by rfl, ?hy54⟩) hHeld ?rest54
            case hy54 => (intro w' hSw; (try dsimp only at hSw); go_split_ands; go_simp; try with_reducible rfl)
            try simp only [Act.put, List.setIfInBounds_toArray, List.set_cons_zero, List.set_cons_succ]
            refine wpAnyH_take (i := 5) (oi := ({ dst := some 23, op := Op.load 30 (Operand.tmp 3), type := 30, pos := "l42_versions.go:14", after := #[], guard := none })) (v := ?v55) rfl (by kernel_rfl) (by kernel_rfl) (by kernel_rfl) (fun _ _ _ h => h) (Or.inl ⟨by rfl, ?hy55⟩) hHeld ?rest55
            case hy55 => (intro w' hSw; (try dsimp only at hSw); go_split_ands; go_simp; try with_reducible rfl)
            try simp only [Act.put, List.setIfInBounds_toArray, List.set_cons_zero, List.set_cons_succ]
            refine wpAnyH_ready (rs := [4]) (by kernel_rfl) (by simp) ?_
            refine AllReadyH.cons (o := ({ dst := some 22, op := Op.call { callee := Callee.value (Operand.func 47), args := #[Operand.tmp 21], argTypes := #[46] }, type := 30, pos := "l42_versions.go:14", after := #[{ on := 3, ground := Ground.data }], guard := none })) rfl (fun K hK => ?_) ?_
            ·
              go_simp
              go_at_call 47; refine (key_spec s d t x3 _).mono ?_; rintro e w2 ⟨rfl, kk'⟩
              try go_wp2_with fail
              have kk : Keep w1 w2 := Keep.trans ((Keep.refl w1).drewN 1) kk'
              refine hK.out _ _ (HSa _ kk) (fun hHeld => ?_)
              clear hK K
              try simp only [Act.put, List.setIfInBounds_toArray, List.set_cons_zero, List.set_cons_succ]
              refine wpAnyH_take (i := 6) (oi := ({ dst := some 24, op := Op.binOp BinOp.eql 30 (Operand.tmp 22) (Operand.tmp 23) 30, type := 4, pos := "l42_versions.go:14", after := #[{ on := 4, ground := Ground.data }, { on := 5, ground := Ground.data }], guard := none })) (v := ?v56) rfl (by kernel_rfl) (by kernel_rfl) (by kernel_rfl) (fun _ _ _ h => h) (Or.inl ⟨by rfl, ?hy56⟩) hHeld ?rest56
              case hy56 => (intro w' hSw; (try dsimp only at hSw); go_split_ands; go_simp; try with_reducible rfl)
              try simp only [Act.put, List.setIfInBounds_toArray, List.set_cons_zero, List.set_cons_succ]
              refine wpAnyH_take (i := 7) (oi := ({ dst := some 25, op := Op.move (Operand.tmp 24), type := 4, pos := "l42_versions.go:14", after := #[{ on := 6, ground := Ground.data }, { on := 4, ground := Ground.chain }], guard := none })) (v := ?v57) rfl (by kernel_rfl) (by kernel_rfl) (by kernel_rfl) (fun _ _ _ h => h) (Or.inl ⟨by rfl, ?hy57⟩) hHeld ?rest57
              case hy57 => (intro w' hSw; (try dsimp only at hSw); go_split_ands; go_simp; try with_reducible rfl)
              try simp only [Act.put, List.setIfInBounds_toArray, List.set_cons_zero, List.set_cons_succ]
              refine wpAnyH_take (i := 8) (oi := ({ dst := some 26, op := Op.move (Operand.tmp 5), type := 26, pos := "l42_versions.go:14", after := #[{ on := 7, ground := Ground.guard }], guard := some (7, true) })) (v := ?v58) rfl (by kernel_rfl) (by kernel_rfl) (by kernel_rfl) (fun _ _ _ h => h) (Or.inl ⟨by rfl, ?hy58⟩) hHeld ?rest58
              case hy58 => (intro w' hSw; (try dsimp only at hSw); go_split_ands; go_simp; try with_reducible rfl)
              try simp only [Act.put, List.setIfInBounds_toArray, List.set_cons_zero, List.set_cons_succ]
              refine wpAnyH_take (i := 9) (oi := ({ dst := some 27, op := Op.call { callee := Callee.builtin Builtin.len, args := #[Operand.tmp 26], argTypes := #[26] }, type := 3, pos := "l42_versions.go:14", after := #[{ on := 8, ground := Ground.data }, { on := 7, ground := Ground.guard }], guard := some (7, true) })) (v := ?v59) rfl (by kernel_rfl) (by kernel_rfl) (by kernel_rfl) (fun _ _ _ h => h) (Or.inl ⟨by rfl, ?hy59⟩) hHeld ?rest59
              case hy59 => (intro w' hSw; (try dsimp only at hSw); go_split_ands; go_simp; try with_reducible rfl)
              try simp only [Act.put, List.setIfInBounds_toArray, List.set_cons_zero, List.set_cons_succ]
              refine wpAnyH_take (i := 10) (oi := ({ dst := some 28, op := Op.binOp BinOp.eql 3 (Operand.tmp 27) (Operand.const (Value.int IntKind.i64 0)) 3, type := 4, pos := "l42_versions.go:14", after := #[{ on := 9, ground := Ground.data }, { on := 7, ground := Ground.guard }], guard := some (7, true) })) (v := ?v60) rfl (by kernel_rfl) (by kernel_rfl) (by kernel_rfl) (fun _ _ _ h => h) (Or.inl ⟨by rfl, ?hy60⟩) hHeld ?rest60
              case hy60 => (intro w' hSw; (try dsimp only at hSw); go_split_ands; go_simp; try with_reducible rfl)
              try simp only [Act.put, List.setIfInBounds_toArray, List.set_cons_zero, List.set_cons_succ]
              refine wpAnyH_take (i := 11) (oi := ({ dst := some 29, op := Op.move (Operand.tmp 28), type := 4, pos := "l42_versions.go:14", after := #[{ on := 10, ground := Ground.data }, { on := 7, ground := Ground.chain }, { on := 7, ground := Ground.guard }], guard := some (7, true) })) (v := ?v61) rfl (by kernel_rfl) (by kernel_rfl) (by kernel_rfl) (fun _ _ _ h => h) (Or.inl ⟨by rfl, ?hy61⟩) hHeld ?rest61
              case hy61 => (intro w' hSw; (try dsimp only at hSw); go_split_ands; go_simp; try with_reducible rfl)
              try simp only [Act.put, List.setIfInBounds_toArray, List.set_cons_zero, List.set_cons_succ]
              refine wpAnyH_take (i := 12) (oi := ({ dst := some 30, op := Op.move (Operand.tmp 5), type := 26, pos := "l42_versions.go:14", after := #[{ on := 11, ground := Ground.guard }], guard := some (11, false) })) (v := ?v62) rfl (by kernel_rfl) (by kernel_rfl) (by kernel_rfl) (fun _ _ _ h => h) (Or.inl ⟨by rfl, ?hy62⟩) hHeld ?rest62
              case hy62 => (intro w' hSw; (try dsimp only at hSw); go_split_ands; go_simp; try with_reducible rfl)
              try simp only [Act.put, List.setIfInBounds_toArray, List.set_cons_zero, List.set_cons_succ]
              refine wpAnyH_take (i := 13) (oi := ({ dst := some 31, op := Op.move (Operand.tmp 5), type := 26, pos := "l42_versions.go:14", after := #[{ on := 11, ground := Ground.guard }], guard := some (11, false) })) (v := ?v63) rfl (by kernel_rfl) (by kernel_rfl) (by kernel_rfl) (fun _ _ _ h => h) (Or.inl ⟨by rfl, ?hy63⟩) hHeld ?rest63
              case hy63 => (intro w' hSw; (try dsimp only at hSw); go_split_ands; go_simp; try with_reducible rfl)
              try simp only [Act.put, List.setIfInBounds_toArray, List.set_cons_zero, List.set_cons_succ]
              refine wpAnyH_take (i := 14) (oi := ({ dst := some 32, op := Op.call { callee := Callee.builtin Builtin.len, args := #[Operand.tmp 31], argTypes := #[26] }, type := 3, pos := "l42_versions.go:14", after := #[{ on := 13, ground := Ground.data }, { on := 11, ground := Ground.guard }], guard := some (11, false) })) (v := ?v64) rfl (by kernel_rfl) (by kernel_rfl) (by kernel_rfl) (fun _ _ _ h => h) (Or.inl ⟨by rfl, ?hy64⟩) hHeld ?rest64
              case hy64 => (intro w' hSw; (try dsimp only at hSw); go_split_ands; go_simp; try with_reducible rfl)
              try simp only [Act.put, List.setIfInBounds_toArray, List.set_cons_zero, List.set_cons_succ]
              refine wpAnyH_take (i := 15) (oi := ({ dst := some 33, op := Op.binOp BinOp.sub 3 (Operand.tmp 32) (Operand.const (Value.int IntKind.i64 1)) 3, type := 3, pos := "l42_versions.go:14", after := #[{ on := 14, ground := Ground.data }, { on := 11, ground := Ground.guard }], guard := some (11, false) })) (v := ?v65) rfl (by kernel_rfl) (by kernel_rfl) (by kernel_rfl) (fun _ _ _ h => h) (Or.inl ⟨by rfl, ?hy65⟩) hHeld ?rest65
              case hy65 => (intro w' hSw; (try dsimp only at hSw); go_split_ands; go_simp; try with_reducible rfl)
              try simp only [Act.put, List.setIfInBounds_toArray, List.set_cons_zero, List.set_cons_succ]
              refine wpAnyH_take (i := 16) (oi := ({ dst := some 34, op := Op.indexAddr 26 (Operand.tmp 30) (Operand.tmp 33), type := 0, pos := "l42_versions.go:14", after := #[{ on := 12, ground := Ground.data }, { on := 15, ground := Ground.data }, { on := 11, ground := Ground.guard }], guard := some (11, false) })) (v := ?v66) rfl (by kernel_rfl) (by kernel_rfl) (by kernel_rfl) (fun _ _ _ h => h) (Or.inl ⟨by rfl, ?hy66⟩) hHeld ?rest66
              case hy66 => (intro w' hSw; (try dsimp only at hSw); go_split_ands; go_simp; try with_reducible rfl)
              try simp only [Act.put, List.setIfInBounds_toArray, List.set_cons_zero, List.set_cons_succ]
              refine wpAnyH_take (i := 17) (oi := ({ dst := some 35, op := Op.load 3 (Operand.tmp 34), type := 3, pos := "l42_versions.go:14", after := #[{ on := 16, ground := Ground.data }, { on := 11, ground := Ground.guard }], guard := some (11, false) })) (v := ?v67) rfl (by kernel_rfl) (by kernel_rfl) (by kernel_rfl) (fun _ _ _ h => h) (Or.inl ⟨by rfl, ?hy67⟩) hHeld ?rest67
              case hy67 => (intro w' hSw; (try dsimp only at hSw); go_split_ands; go_simp; try with_reducible rfl)
              try simp only [Act.put, List.setIfInBounds_toArray, List.set_cons_zero, List.set_cons_succ]
              refine wpAnyH_take (i := 18) (oi := ({ dst := some 36, op := Op.move (Operand.tmp 0), type := 28, pos := "l42_versions.go:14", after := #[{ on := 11, ground := Ground.guard }], guard := some (11, false) })) (v := ?v68) rfl (by kernel_rfl) (by kernel_rfl) (by kernel_rfl) (fun _ _ _ h => h) (Or.inl ⟨by rfl, ?hy68⟩) hHeld ?rest68
              case hy68 => (intro w' hSw; (try dsimp only at hSw); go_split_ands; go_simp; try with_reducible rfl)
              try simp only [Act.put, List.setIfInBounds_toArray, List.set_cons_zero, List.set_cons_succ]
              refine wpAnyH_take (i := 19) (oi := ({ dst := some 37, op := Op.move (Operand.tmp 6), type := 3, pos := "l42_versions.go:14", after := #[{ on := 11, ground := Ground.guard }], guard := some (11, false) })) (v := ?v69) rfl (by kernel_rfl) (by kernel_rfl) (by kernel_rfl) (fun _ _ _ h => h) (Or.inl ⟨by rfl, ?hy69⟩) hHeld ?rest69
              case hy69 => (intro w' hSw; (try dsimp only at hSw); go_split_ands; go_simp; try with_reducible rfl)
              try simp only [Act.put, List.setIfInBounds_toArray, List.set_cons_zero, List.set_cons_succ]
              refine wpAnyH_take (i := 20) (oi := ({ dst := some 38, op := Op.indexAddr 28 (Operand.tmp 36) (Operand.tmp 37), type := 0, pos := "l42_versions.go:14", after := #[{ on := 18, ground := Ground.data }, { on := 19, ground := Ground.data }, { on := 11, ground := Ground.guard }], guard := some (11, false) })) (v := ?v70) rfl (by kernel_rfl) (by kernel_rfl) (by kernel_rfl) (fun _ _ _ h => h) (Or.inl ⟨by rfl, ?hy70⟩) hHeld ?rest70
              case hy70 => (intro w' hSw; (try dsimp only at hSw); go_split_ands; go_simp; try with_reducible rfl)
              try simp only [Act.put, List.setIfInBounds_toArray, List.set_cons_zero, List.set_cons_succ]
              refine wpAnyH_take (i := 21) (oi := ({ dst := some 39, op := Op.fieldAddr 46 (Operand.tmp 38) 3, type := 0, pos := "l42_versions.go:14", after := #[{ on := 20, ground := Ground.data }, { on := 11, ground := Ground.guard }], guard := some (11, false) })) (v := ?v71) rfl (by kernel_rfl) (by kernel_rfl) (by kernel_rfl) (fun _ _ _ h => h) (Or.inl ⟨by rfl, ?hy71⟩) hHeld ?rest71
              case hy71 => (intro w' hSw; (try dsimp only at hSw); go_split_ands; go_simp; try with_reducible rfl)
              try simp only [Act.put, List.setIfInBounds_toArray, List.set_cons_zero, List.set_cons_succ]
              refine wpAnyH_take (i := 22) (oi := ({ dst := some 40, op := Op.load 3 (Operand.tmp 39), type := 3, pos := "l42_versions.go:14", after := #[{ on := 21, ground := Ground.data }, { on := 11, ground := Ground.guard }], guard := some (11, false) })) (v := ?v72) rfl (by kernel_rfl) (by kernel_rfl) (by kernel_rfl) (fun _ _ _ h => h) (Or.inl ⟨by rfl, ?hy72⟩) hHeld ?rest72
              case hy72 => (intro w' hSw; (try dsimp only at hSw); go_split_ands; go_simp; try with_reducible rfl)
              try simp only [Act.put, List.setIfInBounds_toArray, List.set_cons_zero, List.set_cons_succ]
              refine wpAnyH_take (i := 23) (oi := ({ dst := some 41, op := Op.binOp BinOp.neq 3 (Operand.tmp 35) (Operand.tmp 40) 3, type := 4, pos := "l42_versions.go:14", after := #[{ on := 17, ground := Ground.data }, { on := 22, ground := Ground.data }, { on := 11, ground := Ground.guard }], guard := some (11, false) })) (v := ?v73) rfl (by kernel_rfl) (by kernel_rfl) (by kernel_rfl) (fun _ _ _ h => h) (Or.inl ⟨by rfl, ?hy73⟩) hHeld ?rest73
              case hy73 => (intro w' hSw; (try dsimp only at hSw); go_split_ands; go_simp; try with_reducible rfl)
              try simp only [Act.put, List.setIfInBounds_toArray, List.set_cons_zero, List.set_cons_succ]
              refine wpAnyH_take (i := 24) (oi := ({ dst := some 42, op := Op.pick (Operand.tmp 29) (Operand.const (Value.bool true)) (Operand.tmp 41), type := 4, pos := "l42_versions.go:14", after := #[{ on := 11, ground := Ground.data }, { on := 23, ground := Ground.data }, { on := 7, ground := Ground.guard }], guard := some (7, true) })) (v := ?v74) rfl (by kernel_rfl) (by kernel_rfl) (by kernel_rfl) (fun _ _ _ h => h) (Or.inl ⟨by rfl, ?hy74⟩) hHeld ?rest74
              case hy74 => (intro w' hSw; (try dsimp only at hSw); go_split_ands; go_simp; try with_reducible rfl)
              try simp only [Act.put, List.setIfInBounds_toArray, List.set_cons_zero, List.set_cons_succ]
              refine wpAnyH_take (i := 25) (oi := ({ dst := some 43, op := Op.pick (Operand.tmp 25) (Operand.tmp 42) (Operand.const (Value.bool false)), type := 4, pos := "l42_versions.go:14", after := #[{ on := 7, ground := Ground.data }, { on := 24, ground := Ground.data }], guard := none })) (v := ?v75) rfl (by kernel_rfl) (by kernel_rfl) (by kernel_rfl) (fun _ _ _ h => h) (Or.inl ⟨by rfl, ?hy75⟩) hHeld ?rest75
              case hy75 => (intro w' hSw; (try dsimp only at hSw); go_split_ands; go_simp; try with_reducible rfl)
              try simp only [Act.put, List.setIfInBounds_toArray, List.set_cons_zero, List.set_cons_succ]
              refine wpAnyH_done (by kernel_rfl) ?_ _
              have hown : w2.ownsRow (w.heap.size + 1) 3 1 (.slice (some ⟨g, 0, none⟩) n c) n ((hsN rs s d t k).map (Value.int .i64)) := own_keep HOW.out kk
              have hs2 : w.heap.size + 1 ≤ w2.heap.size := by have := (hK.trans k1).trans kk |>.size; simpa using this
              have c3' := kk.cell c3
              have HK2 := Lib.hid ((hK.trans k1).trans kk)
              have HLN2 := Lib.hid (HLN.out)
              clear HSa HOW HM
              go_wp2_with (at_builtin; refine wpList_append_own _ rfl _ _ 26 rfl (w.heap.size + 1) 3 i0 (.int .i64 0) 1 8 Try.underlying26 hi hz0 hz1 hz2 rfl (by decide) _ _ _ rfl (hown.alloc _) ⟨w2.heap.size, 0, none⟩ 1 1 [.int .i64 x3] rfl rfl ?c1an ?c2an ?c3an ?c4an ?c5an ?_)
              case c1an =>
                intro j u hj
                match j, hj with
                | 0, hj => simp at hj; subst hj; simp [Addr.add]
              case c2an => first | rfl | (intro u hu; simp at hu; subst hu; rfl)
              case c3an => unfold maxLen; omega
              case c4an => omega
              case c5an => first | omega | (simp; omega)
              intro v' w5 hown' hgrow hnil
              obtain ⟨g', c', rfl, hbg, hlg⟩ := hown'.form (by omega)
              have HNew : Hid (w5.ownsRow (w.heap.size + 1) 3 1 (.slice (some ⟨g', 0, none⟩) (n + 1) c') (n + 1) ((hsN rs s d t (k + 1)).map (Value.int .i64))) := Lib.hid (by rw [HN.out]; simpa using hown')
              have HN2 : Hid (n + 1 = (hsN rs s d t (k + 1)).length) := Lib.hid (by rw [HN.out, List.length_append, ← HLN2.out]; rfl)
              have HK5 : Hid (Keep (w.alloc (.cells #[.int .i64 s, .int .i64 d, .int .i64 t] 30)) w5) := Lib.hid (Below.grown (HK2.out.alloc (.cells #[.int .i64 x3] 3)) hgrow (HK2.out.alloc (.cells #[.int .i64 x3] 3)).size (fun q hq => by have := (hown.lt q hq).1; simpa using this))
              clear hown' hgrow hnil hown
              go_wp2
              go_roundw
              case rel => exact ⟨k + 1, n + 1, g', c', by omega, by go_num, rfl, HN2, HNew, HK5.out⟩
              case measure => simp [intOf]; omega
            exact AllReadyH.nil
      · have HSa : ∀ W, Keep w1 W → (W.cell? ⟨w.heap.size, 0, none⟩ = some (.int .i64 s) ∧ W.cell? ⟨w.heap.size, 1, none⟩ = some (.int .i64 d) ∧ W.cell? ⟨w.heap.size, 2, none⟩ = some (.int .i64 t) ∧ W.cell? ⟨b, off + k * 4, none⟩ = some (.int .i64 x0) ∧ W.cell? ⟨b, off + k * 4 + 1, none⟩ = some (.int .i64 x1) ∧ W.cell? ⟨b, off + k * 4 + 2, none⟩ = some (.int .i64 x2) ∧ W.cell? ⟨b, off + k * 4 + 3, none⟩ = some (.int .i64 x3)) := fun W kW => ⟨kW.cell p0, kW.cell p1, kW.cell p2, kW.cell c0, kW.cell c1, kW.cell c2, kW.cell c3⟩
        have HN : Hid (hsN rs s d t (k + 1) = hsN rs s d t k) := Lib.hid (by rw [HM.out, if_neg (by simp)])
        go_wp2_with fail
        refine wp_region_held_drew (S := (fun w' => w'.cell? ⟨w.heap.size, 0, none⟩ = some (.int .i64 s) ∧ w'.cell? ⟨w.heap.size, 1, none⟩ = some (.int .i64 d) ∧ w'.cell? ⟨w.heap.size, 2, none⟩ = some (.int .i64 t) ∧ w'.cell? ⟨b, off + k * 4, none⟩ = some (.int .i64 x0) ∧ w'.cell? ⟨b, off + k * 4 + 1, none⟩ = some (.int .i64 x1) ∧ w'.cell? ⟨b, off + k * 4 + 2, none⟩ = some (.int .i64 x2) ∧ w'.cell? ⟨b, off + k * 4 + 3, none⟩ = some (.int .i64 x3))) (by kernel_rfl) (HSa _ ((Keep.refl w1).drewN 1)) (fun hHeld => ?_)
        refine wpAnyH_take (i := 0) (oi := ({ dst := some 18, op := Op.move (Operand.tmp 0), type := 28, pos := "l42_versions.go:14", after := #[], guard := none })) (v := ?v76) rfl (by kernel_rfl) (by kernel_rfl) (by kernel_rfl) (fun _ _ _ h => h) (Or.inl ⟨by rfl, ?hy76⟩) hHeld ?rest76
        case hy76 => (intro w' hSw; (try dsimp only at hSw); go_split_ands; go_simp; try with_reducible rfl)
        try simp only [Act.put, List.setIfInBounds_toArray, List.set_cons_zero, List.set_cons_succ]
        refine wpAnyH_take (i := 1) (oi := ({ dst := some 19, op := Op.move (Operand.tmp 6), type := 3, pos := "l42_versions.go:14", after := #[], guard := none })) (v := ?v77) rfl (by kernel_rfl) (by kernel_rfl) (by kernel_rfl) (fun _ _ _ h => h) (Or.inl ⟨by rfl, ?hy77⟩) hHeld ?rest77
        case hy77 => (intro w' hSw; (try dsimp only at hSw); go_split_ands; go_simp; try with_reducible rfl)
        try simp only [Act.put, List.setIfInBounds_toArray, List.set_cons_zero, List.set_cons_succ]
        refine wpAnyH_take (i := 2) (oi := ({ dst := some 20, op := Op.indexAddr 28 (Operand.tmp 18) (Operand.tmp 19), type := 0, pos := "l42_versions.go:14", after := #[{ on := 0, ground := Ground.data }, { on := 1, ground := Ground.data }], guard := none })) (v := ?v78) rfl (by kernel_rfl) (by kernel_rfl) (by kernel_rfl) (fun _ _ _ h => h) (Or.inl ⟨by rfl, ?hy78⟩) hHeld ?rest78
        case hy78 => (intro w' hSw; (try dsimp only at hSw); go_split_ands; go_simp; try with_reducible rfl)
        try simp only [Act.put, List.setIfInBounds_toArray, List.set_cons_zero, List.set_cons_succ]
        refine wpAnyH_take (i := 3) (oi := ({ dst := some 21, op := Op.load 46 (Operand.tmp 20), type := 46, pos := "l42_versions.go:14", after := #[{ on := 2, ground := Ground.data }], guard := none })) (v := ?v79) rfl (by kernel_rfl) (by kernel_rfl) (by kernel_rfl) (fun _ _ _ h => h) (Or.inl ⟨by rfl, ?hy79⟩) hHeld ?rest79
        case hy79 => (intro w' hSw; (try dsimp only at hSw); go_split_ands; go_simp; try with_reducible rfl)
        try simp only [Act.put, List.setIfInBounds_toArray, List.set_cons_zero, List.set_cons_succ]
        refine wpAnyH_take (i := 5) (oi := ({ dst := some 23, op := Op.load 30 (Operand.tmp 3), type := 30, pos := "l42_versions.go:14", after := #[], guard := none })) (v := ?v80) rfl (by kernel_rfl) (by kernel_rfl) (by kernel_rfl) (fun _ _ _ h => h) (Or.inl ⟨by rfl, ?hy80⟩) hHeld ?rest80
        case hy80 => (intro w' hSw; (try dsimp only at hSw); go_split_ands; go_simp; try with_reducible rfl)
        try simp only [Act.put, List.setIfInBounds_toArray, List.set_cons_zero, List.set_cons_succ]
        refine wpAnyH_ready (rs := [4]) (by kernel_rfl) (by simp) ?_
        refine AllReadyH.cons (o := ({ dst := some 22, op := Op.call { callee := Callee.value (Operand.func 47), args := #[Operand.tmp 21], argTypes := #[46] }, type := 30, pos := "l42_versions.go:14", after := #[{ on := 3, ground := Ground.data }], guard := none })) rfl (fun K hK => ?_) ?_
        ·
          go_simp
          go_at_call 47; refine (key_spec x0 x1 x2 x3 _).mono ?_; rintro e w2 ⟨rfl, kk'⟩
          try go_wp2_with fail
          have kk : Keep w1 w2 := Keep.trans ((Keep.refl w1).drewN 1) kk'
          refine hK.out _ _ (HSa _ kk) (fun hHeld => ?_)
          clear hK K
          try simp only [Act.put, List.setIfInBounds_toArray, List.set_cons_zero, List.set_cons_succ]
          refine wpAnyH_take (i := 6) (oi := ({ dst := some 24, op := Op.binOp BinOp.eql 30 (Operand.tmp 22) (Operand.tmp 23) 30, type := 4, pos := "l42_versions.go:14", after := #[{ on := 4, ground := Ground.data }, { on := 5, ground := Ground.data }], guard := none })) (v := ?v81) rfl (by kernel_rfl) (by kernel_rfl) (by kernel_rfl) (fun _ _ _ h => h) (Or.inl ⟨by rfl, ?hy81⟩) hHeld ?rest81
          case hy81 => (intro w' hSw; (try dsimp only at hSw); go_split_ands; go_simp; try with_reducible rfl)
          try simp only [Act.put, List.setIfInBounds_toArray, List.set_cons_zero, List.set_cons_succ]
          refine wpAnyH_take (i := 7) (oi := ({ dst := some 25, op := Op.move (Operand.tmp 24), type := 4, pos := "l42_versions.go:14", after := #[{ on := 6, ground := Ground.data }, { on := 4, ground := Ground.chain }], guard := none })) (v := ?v82) rfl (by kernel_rfl) (by kernel_rfl) (by kernel_rfl) (fun _ _ _ h => h) (Or.inl ⟨by rfl, ?hy82⟩) hHeld ?rest82
          case hy82 => (intro w' hSw; (try dsimp only at hSw); go_split_ands; go_simp; try with_reducible rfl)
          try simp only [Act.put, List.setIfInBounds_toArray, List.set_cons_zero, List.set_cons_succ]
          refine wpAnyH_take (i := 8) (oi := ({ dst := some 26, op := Op.move (Operand.tmp 5), type := 26, pos := "l42_versions.go:14", after := #[{ on := 7, ground := Ground.guard }], guard := some (7, true) })) (v := undef) rfl (by kernel_rfl) (by kernel_rfl) (by kernel_rfl) (fun _ _ _ h => h) (Or.inr ⟨by first | kernel_rfl | rfl, rfl⟩) hHeld ?rest83
          try simp only [Act.put, List.setIfInBounds_toArray, List.set_cons_zero, List.set_cons_succ]
          refine wpAnyH_take (i := 9) (oi := ({ dst := some 27, op := Op.call { callee := Callee.builtin Builtin.len, args := #[Operand.tmp 26], argTypes := #[26] }, type := 3, pos := "l42_versions.go:14", after := #[{ on := 8, ground := Ground.data }, { on := 7, ground := Ground.guard }], guard := some (7, true) })) (v := undef) rfl (by kernel_rfl) (by kernel_rfl) (by kernel_rfl) (fun _ _ _ h => h) (Or.inr ⟨by first | kernel_rfl | rfl, rfl⟩) hHeld ?rest84
          try simp only [Act.put, List.setIfInBounds_toArray, List.set_cons_zero, List.set_cons_succ]
          refine wpAnyH_take (i := 10) (oi := ({ dst := some 28, op := Op.binOp BinOp.eql 3 (Operand.tmp 27) (Operand.const (Value.int IntKind.i64 0)) 3, type := 4, pos := "l42_versions.go:14", after := #[{ on := 9, ground := Ground.data }, { on := 7, ground := Ground.guard }], guard := some (7, true) })) (v := undef) rfl (by kernel_rfl) (by kernel_rfl) (by kernel_rfl) (fun _ _ _ h => h) (Or.inr ⟨by first | kernel_rfl | rfl, rfl⟩) hHeld ?rest85
          try simp only [Act.put, List.setIfInBounds_toArray, List.set_cons_zero, List.set_cons_succ]
          refine wpAnyH_take (i := 11) (oi := ({ dst := some 29, op := Op.move (Operand.tmp 28), type := 4, pos := "l42_versions.go:14", after := #[{ on := 10, ground := Ground.data }, { on := 7, ground := Ground.chain }, { on := 7, ground := Ground.guard }], guard := some (7, true) })) (v := undef) rfl (by kernel_rfl) (by kernel_rfl) (by kernel_rfl) (fun _ _ _ h => h) (Or.inr ⟨by first | kernel_rfl | rfl, rfl⟩) hHeld ?rest86
          try simp only [Act.put, List.setIfInBounds_toArray, List.set_cons_zero, List.set_cons_succ]
          refine wpAnyH_take (i := 12) (oi := ({ dst := some 30, op := Op.move (Operand.tmp 5), type := 26, pos := "l42_versions.go:14", after := #[{ on := 11, ground := Ground.guard }], guard := some (11, false) })) (v := undef) rfl (by kernel_rfl) (by kernel_rfl) (by kernel_rfl) (fun _ _ _ h => h) (Or.inr ⟨by first | kernel_rfl | rfl, rfl⟩) hHeld ?rest87
          try simp only [Act.put, List.setIfInBounds_toArray, List.set_cons_zero, List.set_cons_succ]
          refine wpAnyH_take (i := 13) (oi := ({ dst := some 31, op := Op.move (Operand.tmp 5), type := 26, pos := "l42_versions.go:14", after := #[{ on := 11, ground := Ground.guard }], guard := some (11, false) })) (v := undef) rfl (by kernel_rfl) (by kernel_rfl) (by kernel_rfl) (fun _ _ _ h => h) (Or.inr ⟨by first | kernel_rfl | rfl, rfl⟩) hHeld ?rest88
          try simp only [Act.put, List.setIfInBounds_toArray, List.set_cons_zero, List.set_cons_succ]
          refine wpAnyH_take (i := 14) (oi := ({ dst := some 32, op := Op.call { callee := Callee.builtin Builtin.len, args := #[Operand.tmp 31], argTypes := #[26] }, type := 3, pos := "l42_versions.go:14", after := #[{ on := 13, ground := Ground.data }, { on := 11, ground := Ground.guard }], guard := some (11, false) })) (v := undef) rfl (by kernel_rfl) (by kernel_rfl) (by kernel_rfl) (fun _ _ _ h => h) (Or.inr ⟨by first | kernel_rfl | rfl, rfl⟩) hHeld ?rest89
          try simp only [Act.put, List.setIfInBounds_toArray, List.set_cons_zero, List.set_cons_succ]
          refine wpAnyH_take (i := 15) (oi := ({ dst := some 33, op := Op.binOp BinOp.sub 3 (Operand.tmp 32) (Operand.const (Value.int IntKind.i64 1)) 3, type := 3, pos := "l42_versions.go:14", after := #[{ on := 14, ground := Ground.data }, { on := 11, ground := Ground.guard }], guard := some (11, false) })) (v := undef) rfl (by kernel_rfl) (by kernel_rfl) (by kernel_rfl) (fun _ _ _ h => h) (Or.inr ⟨by first | kernel_rfl | rfl, rfl⟩) hHeld ?rest90
          try simp only [Act.put, List.setIfInBounds_toArray, List.set_cons_zero, List.set_cons_succ]
          refine wpAnyH_take (i := 16) (oi := ({ dst := some 34, op := Op.indexAddr 26 (Operand.tmp 30) (Operand.tmp 33), type := 0, pos := "l42_versions.go:14", after := #[{ on := 12, ground := Ground.data }, { on := 15, ground := Ground.data }, { on := 11, ground := Ground.guard }], guard := some (11, false) })) (v := undef) rfl (by kernel_rfl) (by kernel_rfl) (by kernel_rfl) (fun _ _ _ h => h) (Or.inr ⟨by first | kernel_rfl | rfl, rfl⟩) hHeld ?rest91
          try simp only [Act.put, List.setIfInBounds_toArray, List.set_cons_zero, List.set_cons_succ]
          refine wpAnyH_take (i := 17) (oi := ({ dst := some 35, op := Op.load 3 (Operand.tmp 34), type := 3, pos := "l42_versions.go:14", after := #[{ on := 16, ground := Ground.data }, { on := 11, ground := Ground.guard }], guard := some (11, false) })) (v := undef) rfl (by kernel_rfl) (by kernel_rfl) (by kernel_rfl) (fun _ _ _ h => h) (Or.inr ⟨by first | kernel_rfl | rfl, rfl⟩) hHeld ?rest92
          try simp only [Act.put, List.setIfInBounds_toArray, List.set_cons_zero, List.set_cons_succ]
          refine wpAnyH_take (i := 18) (oi := ({ dst := some 36, op := Op.move (Operand.tmp 0), type := 28, pos := "l42_versions.go:14", after := #[{ on := 11, ground := Ground.guard }], guard := some (11, false) })) (v := undef) rfl (by kernel_rfl) (by kernel_rfl) (by kernel_rfl) (fun _ _ _ h => h) (Or.inr ⟨by first | kernel_rfl | rfl, rfl⟩) hHeld ?rest93
          try simp only [Act.put, List.setIfInBounds_toArray, List.set_cons_zero, List.set_cons_succ]
          refine wpAnyH_take (i := 19) (oi := ({ dst := some 37, op := Op.move (Operand.tmp 6), type := 3, pos := "l42_versions.go:14", after := #[{ on := 11, ground := Ground.guard }], guard := some (11, false) })) (v := undef) rfl (by kernel_rfl) (by kernel_rfl) (by kernel_rfl) (fun _ _ _ h => h) (Or.inr ⟨by first | kernel_rfl | rfl, rfl⟩) hHeld ?rest94
          try simp only [Act.put, List.setIfInBounds_toArray, List.set_cons_zero, List.set_cons_succ]
          refine wpAnyH_take (i := 20) (oi := ({ dst := some 38, op := Op.indexAddr 28 (Operand.tmp 36) (Operand.tmp 37), type := 0, pos := "l42_versions.go:14", after := #[{ on := 18, ground := Ground.data }, { on := 19, ground := Ground.data }, { on := 11, ground := Ground.guard }], guard := some (11, false) })) (v := undef) rfl (by kernel_rfl) (by kernel_rfl) (by kernel_rfl) (fun _ _ _ h => h) (Or.inr ⟨by first | kernel_rfl | rfl, rfl⟩) hHeld ?rest95
          try simp only [Act.put, List.setIfInBounds_toArray, List.set_cons_zero, List.set_cons_succ]
          refine wpAnyH_take (i := 21) (oi := ({ dst := some 39, op := Op.fieldAddr 46 (Operand.tmp 38) 3, type := 0, pos := "l42_versions.go:14", after := #[{ on := 20, ground := Ground.data }, { on := 11, ground := Ground.guard }], guard := some (11, false) })) (v := undef) rfl (by kernel_rfl) (by kernel_rfl) (by kernel_rfl) (fun _ _ _ h => h) (Or.inr ⟨by first | kernel_rfl | rfl, rfl⟩) hHeld ?rest96
          try simp only [Act.put, List.setIfInBounds_toArray, List.set_cons_zero, List.set_cons_succ]
          refine wpAnyH_take (i := 22) (oi := ({ dst := some 40, op := Op.load 3 (Operand.tmp 39), type := 3, pos := "l42_versions.go:14", after := #[{ on := 21, ground := Ground.data }, { on := 11, ground := Ground.guard }], guard := some (11, false) })) (v := undef) rfl (by kernel_rfl) (by kernel_rfl) (by kernel_rfl) (fun _ _ _ h => h) (Or.inr ⟨by first | kernel_rfl | rfl, rfl⟩) hHeld ?rest97
          try simp only [Act.put, List.setIfInBounds_toArray, List.set_cons_zero, List.set_cons_succ]
          refine wpAnyH_take (i := 23) (oi := ({ dst := some 41, op := Op.binOp BinOp.neq 3 (Operand.tmp 35) (Operand.tmp 40) 3, type := 4, pos := "l42_versions.go:14", after := #[{ on := 17, ground := Ground.data }, { on := 22, ground := Ground.data }, { on := 11, ground := Ground.guard }], guard := some (11, false) })) (v := undef) rfl (by kernel_rfl) (by kernel_rfl) (by kernel_rfl) (fun _ _ _ h => h) (Or.inr ⟨by first | kernel_rfl | rfl, rfl⟩) hHeld ?rest98
          try simp only [Act.put, List.setIfInBounds_toArray, List.set_cons_zero, List.set_cons_succ]
          refine wpAnyH_take (i := 24) (oi := ({ dst := some 42, op := Op.pick (Operand.tmp 29) (Operand.const (Value.bool true)) (Operand.tmp 41), type := 4, pos := "l42_versions.go:14", after := #[{ on := 11, ground := Ground.data }, { on := 23, ground := Ground.data }, { on := 7, ground := Ground.guard }], guard := some (7, true) })) (v := undef) rfl (by kernel_rfl) (by kernel_rfl) (by kernel_rfl) (fun _ _ _ h => h) (Or.inr ⟨by first | kernel_rfl | rfl, rfl⟩) hHeld ?rest99
          try simp only [Act.put, List.setIfInBounds_toArray, List.set_cons_zero, List.set_cons_succ]
          refine wpAnyH_take (i := 25) (oi := ({ dst := some 43, op := Op.pick (Operand.tmp 25) (Operand.tmp 42) (Operand.const (Value.bool false)), type := 4, pos := "l42_versions.go:14", after := #[{ on := 7, ground := Ground.data }, { on := 24, ground := Ground.data }], guard := none })) (v := ?v100) rfl (by kernel_rfl) (by kernel_rfl) (by kernel_rfl) (fun _ _ _ h => h) (Or.inl ⟨by rfl, ?hy100⟩) hHeld ?rest100
          case hy100 => (intro w' hSw; (try dsimp only at hSw); go_split_ands; go_simp; try with_reducible rfl)
          try simp only [Act.put, List.setIfInBounds_toArray, List.set_cons_zero, List.set_cons_succ]
          refine wpAnyH_done (by kernel_rfl) ?_ _
          have HO2 : Hid (w2.ownsRow (w.heap.size + 1) 3 1 (.slice (some ⟨g, 0, none⟩) n c) n ((hsN rs s d t k).map (Value.int .i64))) := Lib.hid (own_keep HOW.out kk)
          clear HSa HOW HM
          go_wp2
          go_roundw
          case rel => exact ⟨k + 1, n, g, c, by omega, by go_num, rfl, Lib.hid (by rw [HN.out]; exact HLN.out), Lib.hid (by rw [HN.out]; exact HO2.out), (hK.trans k1).trans kk⟩
          case measure => simp [intOf]; omega
        exact AllReadyH.nil
      · have HSa : ∀ W, Keep w1 W → (W.cell? ⟨w.heap.size, 0, none⟩ = some (.int .i64 s) ∧ W.cell? ⟨w.heap.size, 1, none⟩ = some (.int .i64 d) ∧ W.cell? ⟨w.heap.size, 2, none⟩ = some (.int .i64 t) ∧ W.cell? ⟨b, off + k * 4, none⟩ = some (.int .i64 x0) ∧ W.cell? ⟨b, off + k * 4 + 1, none⟩ = some (.int .i64 x1) ∧ W.cell? ⟨b, off + k * 4 + 2, none⟩ = some (.int .i64 x2) ∧ W.cell? ⟨b, off + k * 4 + 3, none⟩ = some (.int .i64 x3)) := fun W kW => ⟨kW.cell p0, kW.cell p1, kW.cell p2, kW.cell c0, kW.cell c1, kW.cell c2, kW.cell c3⟩
        have HN : Hid (hsN rs s d t (k + 1) = hsN rs s d t k) := Lib.hid (by rw [HM.out, if_neg (by simp)])
        go_wp2_with fail
        refine wp_region_held_drew (S := (fun w' => w'.cell? ⟨w.heap.size, 0, none⟩ = some (.int .i64 s) ∧ w'.cell? ⟨w.heap.size, 1, none⟩ = some (.int .i64 d) ∧ w'.cell? ⟨w.heap.size, 2, none⟩ = some (.int .i64 t) ∧ w'.cell? ⟨b, off + k * 4, none⟩ = some (.int .i64 x0) ∧ w'.cell? ⟨b, off + k * 4 + 1, none⟩ = some (.int .i64 x1) ∧ w'.cell? ⟨b, off + k * 4 + 2, none⟩ = some (.int .i64 x2) ∧ w'.cell? ⟨b, off + k * 4 + 3, none⟩ = some (.int .i64 x3))) (by kernel_rfl) (HSa _ ((Keep.refl w1).drewN 1)) (fun hHeld => ?_)
        refine wpAnyH_take (i := 0) (oi := ({ dst := some 18, op := Op.move (Operand.tmp 0), type := 28, pos := "l42_versions.go:14", after := #[], guard := none })) (v := ?v101) rfl (by kernel_rfl) (by kernel_rfl) (by kernel_rfl) (fun _ _ _ h => h) (Or.inl ⟨by rfl, ?hy101⟩) hHeld ?rest101
        case hy101 => (intro w' hSw; (try dsimp only at hSw); go_split_ands; go_simp; try with_reducible rfl)
        try simp only [Act.put, List.setIfInBounds_toArray, List.set_cons_zero, List.set_cons_succ]
        refine wpAnyH_take (i := 1) (oi := ({ dst := some 19, op := Op.move (Operand.tmp 6), type := 3, pos := "l42_versions.go:14", after := #[], guard := none })) (v := ?v102) rfl (by kernel_rfl) (by kernel_rfl) (by kernel_rfl) (fun _ _ _ h => h) (Or.inl ⟨by rfl, ?hy102⟩) hHeld ?rest102
        case hy102 => (intro w' hSw; (try dsimp only at hSw); go_split_ands; go_simp; try with_reducible rfl)
        try simp only [Act.put, List.setIfInBounds_toArray, List.set_cons_zero, List.set_cons_succ]
        refine wpAnyH_take (i := 2) (oi := ({ dst := some 20, op := Op.indexAddr 28 (Operand.tmp 18) (Operand.tmp 19), type := 0, pos := "l42_versions.go:14", after := #[{ on := 0, ground := Ground.data }, { on := 1, ground := Ground.data }], guard := none })) (v := ?v103) rfl (by kernel_rfl) (by kernel_rfl) (by kernel_rfl) (fun _ _ _ h => h) (Or.inl ⟨by rfl, ?hy103⟩) hHeld ?rest103
        case hy103 => (intro w' hSw; (try dsimp only at hSw); go_split_ands; go_simp; try with_reducible rfl)
        try simp only [Act.put, List.setIfInBounds_toArray, List.set_cons_zero, List.set_cons_succ]
        refine wpAnyH_take (i := 3) (oi := ({ dst := some 21, op := Op.load 46 (Operand.tmp 20), type := 46, pos := "l42_versions.go:14", after := #[{ on := 2, ground := Ground.data }], guard := none })) (v := ?v104) rfl (by kernel_rfl) (by kernel_rfl) (by kernel_rfl) (fun _ _ _ h => h) (Or.inl ⟨by rfl, ?hy104⟩) hHeld ?rest104
        case hy104 => (intro w' hSw; (try dsimp only at hSw); go_split_ands; go_simp; try with_reducible rfl)
        try simp only [Act.put, List.setIfInBounds_toArray, List.set_cons_zero, List.set_cons_succ]
        refine wpAnyH_take (i := 5) (oi := ({ dst := some 23, op := Op.load 30 (Operand.tmp 3), type := 30, pos := "l42_versions.go:14", after := #[], guard := none })) (v := ?v105) rfl (by kernel_rfl) (by kernel_rfl) (by kernel_rfl) (fun _ _ _ h => h) (Or.inl ⟨by rfl, ?hy105⟩) hHeld ?rest105
        case hy105 => (intro w' hSw; (try dsimp only at hSw); go_split_ands; go_simp; try with_reducible rfl)
        try simp only [Act.put, List.setIfInBounds_toArray, List.set_cons_zero, List.set_cons_succ]
        refine wpAnyH_ready (rs := [4]) (by kernel_rfl) (by simp) ?_
        refine AllReadyH.cons (o := ({ dst := some 22, op := Op.call { callee := Callee.value (Operand.func 47), args := #[Operand.tmp 21], argTypes := #[46] }, type := 30, pos := "l42_versions.go:14", after := #[{ on := 3, ground := Ground.data }], guard := none })) rfl (fun K hK => ?_) ?_
        ·
          go_simp
          go_at_call 47; refine (key_spec x0 x1 x2 x3 _).mono ?_; rintro e w2 ⟨rfl, kk'⟩
          try go_wp2_with fail
          have kk : Keep w1 w2 := Keep.trans ((Keep.refl w1).drewN 1) kk'
          refine hK.out _ _ (HSa _ kk) (fun hHeld => ?_)
          clear hK K
          try simp only [Act.put, List.setIfInBounds_toArray, List.set_cons_zero, List.set_cons_succ]
          refine wpAnyH_take (i := 6) (oi := ({ dst := some 24, op := Op.binOp BinOp.eql 30 (Operand.tmp 22) (Operand.tmp 23) 30, type := 4, pos := "l42_versions.go:14", after := #[{ on := 4, ground := Ground.data }, { on := 5, ground := Ground.data }], guard := none })) (v := ?v106) rfl (by kernel_rfl) (by kernel_rfl) (by kernel_rfl) (fun _ _ _ h => h) (Or.inl ⟨by rfl, ?hy106⟩) hHeld ?rest106
          case hy106 => (intro w' hSw; (try dsimp only at hSw); go_split_ands; go_simp; try with_reducible rfl)
          try simp only [Act.put, List.setIfInBounds_toArray, List.set_cons_zero, List.set_cons_succ]
          refine wpAnyH_take (i := 7) (oi := ({ dst := some 25, op := Op.move (Operand.tmp 24), type := 4, pos := "l42_versions.go:14", after := #[{ on := 6, ground := Ground.data }, { on := 4, ground := Ground.chain }], guard := none })) (v := ?v107) rfl (by kernel_rfl) (by kernel_rfl) (by kernel_rfl) (fun _ _ _ h => h) (Or.inl ⟨by rfl, ?hy107⟩) hHeld ?rest107
          case hy107 => (intro w' hSw; (try dsimp only at hSw); go_split_ands; go_simp; try with_reducible rfl)
          try simp only [Act.put, List.setIfInBounds_toArray, List.set_cons_zero, List.set_cons_succ]
          refine wpAnyH_take (i := 8) (oi := ({ dst := some 26, op := Op.move (Operand.tmp 5), type := 26, pos := "l42_versions.go:14", after := #[{ on := 7, ground := Ground.guard }], guard := some (7, true) })) (v := undef) rfl (by kernel_rfl) (by kernel_rfl) (by kernel_rfl) (fun _ _ _ h => h) (Or.inr ⟨by first | kernel_rfl | rfl, rfl⟩) hHeld ?rest108
          try simp only [Act.put, List.setIfInBounds_toArray, List.set_cons_zero, List.set_cons_succ]
          refine wpAnyH_take (i := 9) (oi := ({ dst := some 27, op := Op.call { callee := Callee.builtin Builtin.len, args := #[Operand.tmp 26], argTypes := #[26] }, type := 3, pos := "l42_versions.go:14", after := #[{ on := 8, ground := Ground.data }, { on := 7, ground := Ground.guard }], guard := some (7, true) })) (v := undef) rfl (by kernel_rfl) (by kernel_rfl) (by kernel_rfl) (fun _ _ _ h => h) (Or.inr ⟨by first | kernel_rfl | rfl, rfl⟩) hHeld ?rest109
          try simp only [Act.put, List.setIfInBounds_toArray, List.set_cons_zero, List.set_cons_succ]
          refine wpAnyH_take (i := 10) (oi := ({ dst := some 28, op := Op.binOp BinOp.eql 3 (Operand.tmp 27) (Operand.const (Value.int IntKind.i64 0)) 3, type := 4, pos := "l42_versions.go:14", after := #[{ on := 9, ground := Ground.data }, { on := 7, ground := Ground.guard }], guard := some (7, true) })) (v := undef) rfl (by kernel_rfl) (by kernel_rfl) (by kernel_rfl) (fun _ _ _ h => h) (Or.inr ⟨by first | kernel_rfl | rfl, rfl⟩) hHeld ?rest110
          try simp only [Act.put, List.setIfInBounds_toArray, List.set_cons_zero, List.set_cons_succ]
          refine wpAnyH_take (i := 11) (oi := ({ dst := some 29, op := Op.move (Operand.tmp 28), type := 4, pos := "l42_versions.go:14", after := #[{ on := 10, ground := Ground.data }, { on := 7, ground := Ground.chain }, { on := 7, ground := Ground.guard }], guard := some (7, true) })) (v := undef) rfl (by kernel_rfl) (by kernel_rfl) (by kernel_rfl) (fun _ _ _ h => h) (Or.inr ⟨by first | kernel_rfl | rfl, rfl⟩) hHeld ?rest111
          try simp only [Act.put, List.setIfInBounds_toArray, List.set_cons_zero, List.set_cons_succ]
          refine wpAnyH_take (i := 12) (oi := ({ dst := some 30, op := Op.move (Operand.tmp 5), type := 26, pos := "l42_versions.go:14", after := #[{ on := 11, ground := Ground.guard }], guard := some (11, false) })) (v := undef) rfl (by kernel_rfl) (by kernel_rfl) (by kernel_rfl) (fun _ _ _ h => h) (Or.inr ⟨by first | kernel_rfl | rfl, rfl⟩) hHeld ?rest112
          try simp only [Act.put, List.setIfInBounds_toArray, List.set_cons_zero, List.set_cons_succ]
          refine wpAnyH_take (i := 13) (oi := ({ dst := some 31, op := Op.move (Operand.tmp 5), type := 26, pos := "l42_versions.go:14", after := #[{ on := 11, ground := Ground.guard }], guard := some (11, false) })) (v := undef) rfl (by kernel_rfl) (by kernel_rfl) (by kernel_rfl) (fun _ _ _ h => h) (Or.inr ⟨by first | kernel_rfl | rfl, rfl⟩) hHeld ?rest113
          try simp only [Act.put, List.setIfInBounds_toArray, List.set_cons_zero, List.set_cons_succ]
          refine wpAnyH_take (i := 14) (oi := ({ dst := some 32, op := Op.call { callee := Callee.builtin Builtin.len, args := #[Operand.tmp 31], argTypes := #[26] }, type := 3, pos := "l42_versions.go:14", after := #[{ on := 13, ground := Ground.data }, { on := 11, ground := Ground.guard }], guard := some (11, false) })) (v := undef) rfl (by kernel_rfl) (by kernel_rfl) (by kernel_rfl) (fun _ _ _ h => h) (Or.inr ⟨by first | kernel_rfl | rfl, rfl⟩) hHeld ?rest114
          try simp only [Act.put, List.setIfInBounds_toArray, List.set_cons_zero, List.set_cons_succ]
          refine wpAnyH_take (i := 15) (oi := ({ dst := some 33, op := Op.binOp BinOp.sub 3 (Operand.tmp 32) (Operand.const (Value.int IntKind.i64 1)) 3, type := 3, pos := "l42_versions.go:14", after := #[{ on := 14, ground := Ground.data }, { on := 11, ground := Ground.guard }], guard := some (11, false) })) (v := undef) rfl (by kernel_rfl) (by kernel_rfl) (by kernel_rfl) (fun _ _ _ h => h) (Or.inr ⟨by first | kernel_rfl | rfl, rfl⟩) hHeld ?rest115
          try simp only [Act.put, List.setIfInBounds_toArray, List.set_cons_zero, List.set_cons_succ]
          refine wpAnyH_take (i := 16) (oi := ({ dst := some 34, op := Op.indexAddr 26 (Operand.tmp 30) (Operand.tmp 33), type := 0, pos := "l42_versions.go:14", after := #[{ on := 12, ground := Ground.data }, { on := 15, ground := Ground.data }, { on := 11, ground := Ground.guard }], guard := some (11, false) })) (v := undef) rfl (by kernel_rfl) (by kernel_rfl) (by kernel_rfl) (fun _ _ _ h => h) (Or.inr ⟨by first | kernel_rfl | rfl, rfl⟩) hHeld ?rest116
          try simp only [Act.put, List.setIfInBounds_toArray, List.set_cons_zero, List.set_cons_succ]
          refine wpAnyH_take (i := 17) (oi := ({ dst := some 35, op := Op.load 3 (Operand.tmp 34), type := 3, pos := "l42_versions.go:14", after := #[{ on := 16, ground := Ground.data }, { on := 11, ground := Ground.guard }], guard := some (11, false) })) (v := undef) rfl (by kernel_rfl) (by kernel_rfl) (by kernel_rfl) (fun _ _ _ h => h) (Or.inr ⟨by first | kernel_rfl | rfl, rfl⟩) hHeld ?rest117
          try simp only [Act.put, List.setIfInBounds_toArray, List.set_cons_zero, List.set_cons_succ]
          refine wpAnyH_take (i := 18) (oi := ({ dst := some 36, op := Op.move (Operand.tmp 0), type := 28, pos := "l42_versions.go:14", after := #[{ on := 11, ground := Ground.guard }], guard := some (11, false) })) (v := undef) rfl (by kernel_rfl) (by kernel_rfl) (by kernel_rfl) (fun _ _ _ h => h) (Or.inr ⟨by first | kernel_rfl | rfl, rfl⟩) hHeld ?rest118
          try simp only [Act.put, List.setIfInBounds_toArray, List.set_cons_zero, List.set_cons_succ]
          refine wpAnyH_take (i := 19) (oi := ({ dst := some 37, op := Op.move (Operand.tmp 6), type := 3, pos := "l42_versions.go:14", after := #[{ on := 11, ground := Ground.guard }], guard := some (11, false) })) (v := undef) rfl (by kernel_rfl) (by kernel_rfl) (by kernel_rfl) (fun _ _ _ h => h) (Or.inr ⟨by first | kernel_rfl | rfl, rfl⟩) hHeld ?rest119
          try simp only [Act.put, List.setIfInBounds_toArray, List.set_cons_zero, List.set_cons_succ]
          refine wpAnyH_take (i := 20) (oi := ({ dst := some 38, op := Op.indexAddr 28 (Operand.tmp 36) (Operand.tmp 37), type := 0, pos := "l42_versions.go:14", after := #[{ on := 18, ground := Ground.data }, { on := 19, ground := Ground.data }, { on := 11, ground := Ground.guard }], guard := some (11, false) })) (v := undef) rfl (by kernel_rfl) (by kernel_rfl) (by kernel_rfl) (fun _ _ _ h => h) (Or.inr ⟨by first | kernel_rfl | rfl, rfl⟩) hHeld ?rest120
          try simp only [Act.put, List.setIfInBounds_toArray, List.set_cons_zero, List.set_cons_succ]
          refine wpAnyH_take (i := 21) (oi := ({ dst := some 39, op := Op.fieldAddr 46 (Operand.tmp 38) 3, type := 0, pos := "l42_versions.go:14", after := #[{ on := 20, ground := Ground.data }, { on := 11, ground := Ground.guard }], guard := some (11, false) })) (v := undef) rfl (by kernel_rfl) (by kernel_rfl) (by kernel_rfl) (fun _ _ _ h => h) (Or.inr ⟨by first | kernel_rfl | rfl, rfl⟩) hHeld ?rest121
          try simp only [Act.put, List.setIfInBounds_toArray, List.set_cons_zero, List.set_cons_succ]
          refine wpAnyH_take (i := 22) (oi := ({ dst := some 40, op := Op.load 3 (Operand.tmp 39), type := 3, pos := "l42_versions.go:14", after := #[{ on := 21, ground := Ground.data }, { on := 11, ground := Ground.guard }], guard := some (11, false) })) (v := undef) rfl (by kernel_rfl) (by kernel_rfl) (by kernel_rfl) (fun _ _ _ h => h) (Or.inr ⟨by first | kernel_rfl | rfl, rfl⟩) hHeld ?rest122
          try simp only [Act.put, List.setIfInBounds_toArray, List.set_cons_zero, List.set_cons_succ]
          refine wpAnyH_take (i := 23) (oi := ({ dst := some 41, op := Op.binOp BinOp.neq 3 (Operand.tmp 35) (Operand.tmp 40) 3, type := 4, pos := "l42_versions.go:14", after := #[{ on := 17, ground := Ground.data }, { on := 22, ground := Ground.data }, { on := 11, ground := Ground.guard }], guard := some (11, false) })) (v := undef) rfl (by kernel_rfl) (by kernel_rfl) (by kernel_rfl) (fun _ _ _ h => h) (Or.inr ⟨by first | kernel_rfl | rfl, rfl⟩) hHeld ?rest123
          try simp only [Act.put, List.setIfInBounds_toArray, List.set_cons_zero, List.set_cons_succ]
          refine wpAnyH_take (i := 24) (oi := ({ dst := some 42, op := Op.pick (Operand.tmp 29) (Operand.const (Value.bool true)) (Operand.tmp 41), type := 4, pos := "l42_versions.go:14", after := #[{ on := 11, ground := Ground.data }, { on := 23, ground := Ground.data }, { on := 7, ground := Ground.guard }], guard := some (7, true) })) (v := undef) rfl (by kernel_rfl) (by kernel_rfl) (by kernel_rfl) (fun _ _ _ h => h) (Or.inr ⟨by first | kernel_rfl | rfl, rfl⟩) hHeld ?rest124
          try simp only [Act.put, List.setIfInBounds_toArray, List.set_cons_zero, List.set_cons_succ]
          refine wpAnyH_take (i := 25) (oi := ({ dst := some 43, op := Op.pick (Operand.tmp 25) (Operand.tmp 42) (Operand.const (Value.bool false)), type := 4, pos := "l42_versions.go:14", after := #[{ on := 7, ground := Ground.data }, { on := 24, ground := Ground.data }], guard := none })) (v := ?v125) rfl (by kernel_rfl) (by kernel_rfl) (by kernel_rfl) (fun _ _ _ h => h) (Or.inl ⟨by rfl, ?hy125⟩) hHeld ?rest125
          case hy125 => (intro w' hSw; (try dsimp only at hSw); go_split_ands; go_simp; try with_reducible rfl)
          try simp only [Act.put, List.setIfInBounds_toArray, List.set_cons_zero, List.set_cons_succ]
          refine wpAnyH_done (by kernel_rfl) ?_ _
          have HO2 : Hid (w2.ownsRow (w.heap.size + 1) 3 1 (.slice (some ⟨g, 0, none⟩) n c) n ((hsN rs s d t k).map (Value.int .i64))) := Lib.hid (own_keep HOW.out kk)
          clear HSa HOW HM
          go_wp2
          go_roundw
          case rel => exact ⟨k + 1, n, g, c, by omega, by go_num, rfl, Lib.hid (by rw [HN.out]; exact HLN.out), Lib.hid (by rw [HN.out]; exact HO2.out), (hK.trans k1).trans kk⟩
          case measure => simp [intOf]; omega
        exact AllReadyH.nil
      · have HSa : ∀ W, Keep w1 W → (W.cell? ⟨w.heap.size, 0, none⟩ = some (.int .i64 s) ∧ W.cell? ⟨w.heap.size, 1, none⟩ = some (.int .i64 d) ∧ W.cell? ⟨w.heap.size, 2, none⟩ = some (.int .i64 t) ∧ W.cell? ⟨b, off + k * 4, none⟩ = some (.int .i64 x0) ∧ W.cell? ⟨b, off + k * 4 + 1, none⟩ = some (.int .i64 x1) ∧ W.cell? ⟨b, off + k * 4 + 2, none⟩ = some (.int .i64 x2) ∧ W.cell? ⟨b, off + k * 4 + 3, none⟩ = some (.int .i64 x3)) := fun W kW => ⟨kW.cell p0, kW.cell p1, kW.cell p2, kW.cell c0, kW.cell c1, kW.cell c2, kW.cell c3⟩
        have HN : Hid (hsN rs s d t (k + 1) = hsN rs s d t k) := Lib.hid (by rw [HM.out, if_neg (by simp)])
        go_wp2_with fail
        refine wp_region_held_drew (S := (fun w' => w'.cell? ⟨w.heap.size, 0, none⟩ = some (.int .i64 s) ∧ w'.cell? ⟨w.heap.size, 1, none⟩ = some (.int .i64 d) ∧ w'.cell? ⟨w.heap.size, 2, none⟩ = some (.int .i64 t) ∧ w'.cell? ⟨b, off + k * 4, none⟩ = some (.int .i64 x0) ∧ w'.cell? ⟨b, off + k * 4 + 1, none⟩ = some (.int .i64 x1) ∧ w'.cell? ⟨b, off + k * 4 + 2, none⟩ = some (.int .i64 x2) ∧ w'.cell? ⟨b, off + k * 4 + 3, none⟩ = some (.int .i64 x3))) (by kernel_rfl) (HSa _ ((Keep.refl w1).drewN 1)) (fun hHeld => ?_)
        refine wpAnyH_take (i := 0) (oi := ({ dst := some 18, op := Op.move (Operand.tmp 0), type := 28, pos := "l42_versions.go:14", after := #[], guard := none })) (v := ?v126) rfl (by kernel_rfl) (by kernel_rfl) (by kernel_rfl) (fun _ _ _ h => h) (Or.inl ⟨by rfl, ?hy126⟩) hHeld ?rest126
        case hy126 => (intro w' hSw; (try dsimp only at hSw); go_split_ands; go_simp; try with_reducible rfl)
        try simp only [Act.put, List.setIfInBounds_toArray, List.set_cons_zero, List.set_cons_succ]
        refine wpAnyH_take (i := 1) (oi := ({ dst := some 19, op := Op.move (Operand.tmp 6), type := 3, pos := "l42_versions.go:14", after := #[], guard := none })) (v := ?v127) rfl (by kernel_rfl) (by kernel_rfl) (by kernel_rfl) (fun _ _ _ h => h) (Or.inl ⟨by rfl, ?hy127⟩) hHeld ?rest127
        case hy127 => (intro w' hSw; (try dsimp only at hSw); go_split_ands; go_simp; try with_reducible rfl)
        try simp only [Act.put, List.setIfInBounds_toArray, List.set_cons_zero, List.set_cons_succ]
        refine wpAnyH_take (i := 2) (oi := ({ dst := some 20, op := Op.indexAddr 28 (Operand.tmp 18) (Operand.tmp 19), type := 0, pos := "l42_versions.go:14", after := #[{ on := 0, ground := Ground.data }, { on := 1, ground := Ground.data }], guard := none })) (v := ?v128) rfl (by kernel_rfl) (by kernel_rfl) (by kernel_rfl) (fun _ _ _ h => h) (Or.inl ⟨by rfl, ?hy128⟩) hHeld ?rest128
        case hy128 => (intro w' hSw; (try dsimp only at hSw); go_split_ands; go_simp; try with_reducible rfl)
        try simp only [Act.put, List.setIfInBounds_toArray, List.set_cons_zero, List.set_cons_succ]
        refine wpAnyH_take (i := 3) (oi := ({ dst := some 21, op := Op.load 46 (Operand.tmp 20), type := 46, pos := "l42_versions.go:14", after := #[{ on := 2, ground := Ground.data }], guard := none })) (v := ?v129) rfl (by kernel_rfl) (by kernel_rfl) (by kernel_rfl) (fun _ _ _ h => h) (Or.inl ⟨by rfl, ?hy129⟩) hHeld ?rest129
        case hy129 => (intro w' hSw; (try dsimp only at hSw); go_split_ands; go_simp; try with_reducible rfl)
        try simp only [Act.put, List.setIfInBounds_toArray, List.set_cons_zero, List.set_cons_succ]
        refine wpAnyH_take (i := 5) (oi := ({ dst := some 23, op := Op.load 30 (Operand.tmp 3), type := 30, pos := "l42_versions.go:14", after := #[], guard := none })) (v := ?v130) rfl (by kernel_rfl) (by kernel_rfl) (by kernel_rfl) (fun _ _ _ h => h) (Or.inl ⟨by rfl, ?hy130⟩) hHeld ?rest130
        case hy130 => (intro w' hSw; (try dsimp only at hSw); go_split_ands; go_simp; try with_reducible rfl)
        try simp only [Act.put, List.setIfInBounds_toArray, List.set_cons_zero, List.set_cons_succ]
        refine wpAnyH_ready (rs := [4]) (by kernel_rfl) (by simp) ?_
        refine AllReadyH.cons (o := ({ dst := some 22, op := Op.call { callee := Callee.value (Operand.func 47), args := #[Operand.tmp 21], argTypes := #[46] }, type := 30, pos := "l42_versions.go:14", after := #[{ on := 3, ground := Ground.data }], guard := none })) rfl (fun K hK => ?_) ?_
        ·
          go_simp
          go_at_call 47; refine (key_spec x0 x1 x2 x3 _).mono ?_; rintro e w2 ⟨rfl, kk'⟩
          try go_wp2_with fail
          have kk : Keep w1 w2 := Keep.trans ((Keep.refl w1).drewN 1) kk'
          refine hK.out _ _ (HSa _ kk) (fun hHeld => ?_)
          clear hK K
          try simp only [Act.put, List.setIfInBounds_toArray, List.set_cons_zero, List.set_cons_succ]
          refine wpAnyH_take (i := 6) (oi := ({ dst := some 24, op := Op.binOp BinOp.eql 30 (Operand.tmp 22) (Operand.tmp 23) 30, type := 4, pos := "l42_versions.go:14", after := #[{ on := 4, ground := Ground.data }, { on := 5, ground := Ground.data }], guard := none })) (v := ?v131) rfl (by kernel_rfl) (by kernel_rfl) (by kernel_rfl) (fun _ _ _ h => h) (Or.inl ⟨by rfl, ?hy131⟩) hHeld ?rest131
          case hy131 => (intro w' hSw; (try dsimp only at hSw); go_split_ands; go_simp; try with_reducible rfl)
          try simp only [Act.put, List.setIfInBounds_toArray, List.set_cons_zero, List.set_cons_succ]
          refine wpAnyH_take (i := 7) (oi := ({ dst := some 25, op := Op.move (Operand.tmp 24), type := 4, pos := "l42_versions.go:14", after := #[{ on := 6, ground := Ground.data }, { on := 4, ground := Ground.chain }], guard := none })) (v := ?v132) rfl (by kernel_rfl) (by kernel_rfl) (by kernel_rfl) (fun _ _ _ h => h) (Or.inl ⟨by rfl, ?hy132⟩) hHeld ?rest132
          case hy132 => (intro w' hSw; (try dsimp only at hSw); go_split_ands; go_simp; try with_reducible rfl)
          try simp only [Act.put, List.setIfInBounds_toArray, List.set_cons_zero, List.set_cons_succ]
          refine wpAnyH_take (i := 8) (oi := ({ dst := some 26, op := Op.move (Operand.tmp 5), type := 26, pos := "l42_versions.go:14", after := #[{ on := 7, ground := Ground.guard }], guard := some (7, true) })) (v := undef) rfl (by kernel_rfl) (by kernel_rfl) (by kernel_rfl) (fun _ _ _ h => h) (Or.inr ⟨by first | kernel_rfl | rfl, rfl⟩) hHeld ?rest133
          try simp only [Act.put, List.setIfInBounds_toArray, List.set_cons_zero, List.set_cons_succ]
          refine wpAnyH_take (i := 9) (oi := ({ dst := some 27, op := Op.call { callee := Callee.builtin Builtin.len, args := #[Operand.tmp 26], argTypes := #[26] }, type := 3, pos := "l42_versions.go:14", after := #[{ on := 8, ground := Ground.data }, { on := 7, ground := Ground.guard }], guard := some (7, true) })) (v := undef) rfl (by kernel_rfl) (by kernel_rfl) (by kernel_rfl) (fun _ _ _ h => h) (Or.inr ⟨by first | kernel_rfl | rfl, rfl⟩) hHeld ?rest134
          try simp only [Act.put, List.setIfInBounds_toArray, List.set_cons_zero, List.set_cons_succ]
          refine wpAnyH_take (i := 10) (oi := ({ dst := some 28, op := Op.binOp BinOp.eql 3 (Operand.tmp 27) (Operand.const (Value.int IntKind.i64 0)) 3, type := 4, pos := "l42_versions.go:14", after := #[{ on := 9, ground := Ground.data }, { on := 7, ground := Ground.guard }], guard := some (7, true) })) (v := undef) rfl (by kernel_rfl) (by kernel_rfl) (by kernel_rfl) (fun _ _ _ h => h) (Or.inr ⟨by first | kernel_rfl | rfl, rfl⟩) hHeld ?rest135
          try simp only [Act.put, List.setIfInBounds_toArray, List.set_cons_zero, List.set_cons_succ]
          refine wpAnyH_take (i := 11) (oi := ({ dst := some 29, op := Op.move (Operand.tmp 28), type := 4, pos := "l42_versions.go:14", after := #[{ on := 10, ground := Ground.data }, { on := 7, ground := Ground.chain }, { on := 7, ground := Ground.guard }], guard := some (7, true) })) (v := undef) rfl (by kernel_rfl) (by kernel_rfl) (by kernel_rfl) (fun _ _ _ h => h) (Or.inr ⟨by first | kernel_rfl | rfl, rfl⟩) hHeld ?rest136
          try simp only [Act.put, List.setIfInBounds_toArray, List.set_cons_zero, List.set_cons_succ]
          refine wpAnyH_take (i := 12) (oi := ({ dst := some 30, op := Op.move (Operand.tmp 5), type := 26, pos := "l42_versions.go:14", after := #[{ on := 11, ground := Ground.guard }], guard := some (11, false) })) (v := undef) rfl (by kernel_rfl) (by kernel_rfl) (by kernel_rfl) (fun _ _ _ h => h) (Or.inr ⟨by first | kernel_rfl | rfl, rfl⟩) hHeld ?rest137
          try simp only [Act.put, List.setIfInBounds_toArray, List.set_cons_zero, List.set_cons_succ]
          refine wpAnyH_take (i := 13) (oi := ({ dst := some 31, op := Op.move (Operand.tmp 5), type := 26, pos := "l42_versions.go:14", after := #[{ on := 11, ground := Ground.guard }], guard := some (11, false) })) (v := undef) rfl (by kernel_rfl) (by kernel_rfl) (by kernel_rfl) (fun _ _ _ h => h) (Or.inr ⟨by first | kernel_rfl | rfl, rfl⟩) hHeld ?rest138
          try simp only [Act.put, List.setIfInBounds_toArray, List.set_cons_zero, List.set_cons_succ]
          refine wpAnyH_take (i := 14) (oi := ({ dst := some 32, op := Op.call { callee := Callee.builtin Builtin.len, args := #[Operand.tmp 31], argTypes := #[26] }, type := 3, pos := "l42_versions.go:14", after := #[{ on := 13, ground := Ground.data }, { on := 11, ground := Ground.guard }], guard := some (11, false) })) (v := undef) rfl (by kernel_rfl) (by kernel_rfl) (by kernel_rfl) (fun _ _ _ h => h) (Or.inr ⟨by first | kernel_rfl | rfl, rfl⟩) hHeld ?rest139
          try simp only [Act.put, List.setIfInBounds_toArray, List.set_cons_zero, List.set_cons_succ]
          refine wpAnyH_take (i := 15) (oi := ({ dst := some 33, op := Op.binOp BinOp.sub 3 (Operand.tmp 32) (Operand.const (Value.int IntKind.i64 1)) 3, type := 3, pos := "l42_versions.go:14", after := #[{ on := 14, ground := Ground.data }, { on := 11, ground := Ground.guard }], guard := some (11, false) })) (v := undef) rfl (by kernel_rfl) (by kernel_rfl) (by kernel_rfl) (fun _ _ _ h => h) (Or.inr ⟨by first | kernel_rfl | rfl, rfl⟩) hHeld ?rest140
          try simp only [Act.put, List.setIfInBounds_toArray, List.set_cons_zero, List.set_cons_succ]
          refine wpAnyH_take (i := 16) (oi := ({ dst := some 34, op := Op.indexAddr 26 (Operand.tmp 30) (Operand.tmp 33), type := 0, pos := "l42_versions.go:14", after := #[{ on := 12, ground := Ground.data }, { on := 15, ground := Ground.data }, { on := 11, ground := Ground.guard }], guard := some (11, false) })) (v := undef) rfl (by kernel_rfl) (by kernel_rfl) (by kernel_rfl) (fun _ _ _ h => h) (Or.inr ⟨by first | kernel_rfl | rfl, rfl⟩) hHeld ?rest141
          try simp only [Act.put, List.setIfInBounds_toArray, List.set_cons_zero, List.set_cons_succ]
          refine wpAnyH_take (i := 17) (oi := ({ dst := some 35, op := Op.load 3 (Operand.tmp 34), type := 3, pos := "l42_versions.go:14", after := #[{ on := 16, ground := Ground.data }, { on := 11, ground := Ground.guard }], guard := some (11, false) })) (v := undef) rfl (by kernel_rfl) (by kernel_rfl) (by kernel_rfl) (fun _ _ _ h => h) (Or.inr ⟨by first | kernel_rfl | rfl, rfl⟩) hHeld ?rest142
          try simp only [Act.put, List.setIfInBounds_toArray, List.set_cons_zero, List.set_cons_succ]
          refine wpAnyH_take (i := 18) (oi := ({ dst := some 36, op := Op.move (Operand.tmp 0), type := 28, pos := "l42_versions.go:14", after := #[{ on := 11, ground := Ground.guard }], guard := some (11, false) })) (v := undef) rfl (by kernel_rfl) (by kernel_rfl) (by kernel_rfl) (fun _ _ _ h => h) (Or.inr ⟨by first | kernel_rfl | rfl, rfl⟩) hHeld ?rest143
          try simp only [Act.put, List.setIfInBounds_toArray, List.set_cons_zero, List.set_cons_succ]
          refine wpAnyH_take (i := 19) (oi := ({ dst := some 37, op := Op.move (Operand.tmp 6), type := 3, pos := "l42_versions.go:14", after := #[{ on := 11, ground := Ground.guard }], guard := some (11, false) })) (v := undef) rfl (by kernel_rfl) (by kernel_rfl) (by kernel_rfl) (fun _ _ _ h => h) (Or.inr ⟨by first | kernel_rfl | rfl, rfl⟩) hHeld ?rest144
          try simp only [Act.put, List.setIfInBounds_toArray, List.set_cons_zero, List.set_cons_succ]
          refine wpAnyH_take (i := 20) (oi := ({ dst := some 38, op := Op.indexAddr 28 (Operand.tmp 36) (Operand.tmp 37), type := 0, pos := "l42_versions.go:14", after := #[{ on := 18, ground := Ground.data }, { on := 19, ground := Ground.data }, { on := 11, ground := Ground.guard }], guard := some (11, false) })) (v := undef) rfl (by kernel_rfl) (by kernel_rfl) (by kernel_rfl) (fun _ _ _ h => h) (Or.inr ⟨by first | kernel_rfl | rfl, rfl⟩) hHeld ?rest145
          try simp only [Act.put, List.setIfInBounds_toArray, List.set_cons_zero, List.set_cons_succ]
          refine wpAnyH_take (i := 21) (oi := ({ dst := some 39, op := Op.fieldAddr 46 (Operand.tmp 38) 3, type := 0, pos := "l42_versions.go:14", after := #[{ on := 20, ground := Ground.data }, { on := 11, ground := Ground.guard }], guard := some (11, false) })) (v := undef) rfl (by kernel_rfl) (by kernel_rfl) (by kernel_rfl) (fun _ _ _ h => h) (Or.inr ⟨by first | kernel_rfl | rfl, rfl⟩) hHeld ?rest146
          try simp only [Act.put, List.setIfInBounds_toArray, List.set_cons_zero, List.set_cons_succ]
          refine wpAnyH_take (i := 22) (oi := ({ dst := some 40, op := Op.load 3 (Operand.tmp 39), type := 3, pos := "l42_versions.go:14", after := #[{ on := 21, ground := Ground.data }, { on := 11, ground := Ground.guard }], guard := some (11, false) })) (v := undef) rfl (by kernel_rfl) (by kernel_rfl) (by kernel_rfl) (fun _ _ _ h => h) (Or.inr ⟨by first | kernel_rfl | rfl, rfl⟩) hHeld ?rest147
          try simp only [Act.put, List.setIfInBounds_toArray, List.set_cons_zero, List.set_cons_succ]
          refine wpAnyH_take (i := 23) (oi := ({ dst := some 41, op := Op.binOp BinOp.neq 3 (Operand.tmp 35) (Operand.tmp 40) 3, type := 4, pos := "l42_versions.go:14", after := #[{ on := 17, ground := Ground.data }, { on := 22, ground := Ground.data }, { on := 11, ground := Ground.guard }], guard := some (11, false) })) (v := undef) rfl (by kernel_rfl) (by kernel_rfl) (by kernel_rfl) (fun _ _ _ h => h) (Or.inr ⟨by first | kernel_rfl | rfl, rfl⟩) hHeld ?rest148
          try simp only [Act.put, List.setIfInBounds_toArray, List.set_cons_zero, List.set_cons_succ]
          refine wpAnyH_take (i := 24) (oi := ({ dst := some 42, op := Op.pick (Operand.tmp 29) (Operand.const (Value.bool true)) (Operand.tmp 41), type := 4, pos := "l42_versions.go:14", after := #[{ on := 11, ground := Ground.data }, { on := 23, ground := Ground.data }, { on := 7, ground := Ground.guard }], guard := some (7, true) })) (v := undef) rfl (by kernel_rfl) (by kernel_rfl) (by kernel_rfl) (fun _ _ _ h => h) (Or.inr ⟨by first | kernel_rfl | rfl, rfl⟩) hHeld ?rest149
          try simp only [Act.put, List.setIfInBounds_toArray, List.set_cons_zero, List.set_cons_succ]
          refine wpAnyH_take (i := 25) (oi := ({ dst := some 43, op := Op.pick (Operand.tmp 25) (Operand.tmp 42) (Operand.const (Value.bool false)), type := 4, pos := "l42_versions.go:14", after := #[{ on := 7, ground := Ground.data }, { on := 24, ground := Ground.data }], guard := none })) (v := ?v150) rfl (by kernel_rfl) (by kernel_rfl) (by kernel_rfl) (fun _ _ _ h => h) (Or.inl ⟨by rfl, ?hy150⟩) hHeld ?rest150
          case hy150 => (intro w' hSw; (try dsimp only at hSw); go_split_ands; go_simp; try with_reducible rfl)
          try simp only [Act.put, List.setIfInBounds_toArray, List.set_cons_zero, List.set_cons_succ]
          refine wpAnyH_done (by kernel_rfl) ?_ _
          have HO2 : Hid (w2.ownsRow (w.heap.size + 1) 3 1 (.slice (some ⟨g, 0, none⟩) n c) n ((hsN rs s d t k).map (Value.int .i64))) := Lib.hid (own_keep HOW.out kk)
          clear HSa HOW HM
          go_wp2
          go_roundw
          case rel => exact ⟨k + 1, n, g, c, by omega, by go_num, rfl, Lib.hid (by rw [HN.out]; exact HLN.out), Lib.hid (by rw [HN.out]; exact HO2.out), (hK.trans k1).trans kk⟩
          case measure => simp [intOf]; omega
        exact AllReadyH.nil
    · obtain rfl : k = rs.length := by omega
      have HF := Lib.hid (fresh_own (w := w) (by have h1 := HW.out; rw [HLN.out] at h1; exact h1) (Nat.le_succ _))
      go_wp2_with fail
      go_ret
      exact ⟨some ⟨g, 0, none⟩, c, by rw [HO.out, HLN.out]; rfl, by rw [HO.out]; exact HF.out, hKw⟩
end Go.Proofs.Ytlaajompcbmdoab
