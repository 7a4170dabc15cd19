/- How lines are drawn. -/
import Derived.Test.YtkiibklenpncpaaDrHr
import Derived.Test.YtkiibklenpncpaaRd
import Derived.Test.YtkiibklenpncpaaKeep
import Derived.IntWalk
import Derived.OwnWalk
import Derived.Lib.Hide
import Derived.Outline
import Derived.Deep.RegionHeld3
namespace Go.Proofs.Ytkiibklenpncpaa
open Go.RowKit
set_option linter.unusedVariables false

theorem wpAnyH_mono {P : Program} {ops : Array Oper} {Q : Exit → Act → World → Prop} {md : Region.Mode} {S S2 : World → Prop} (hS : ∀ w, S2 w → S w) :
    ∀ (fuel : Nat) (listed : Array Bool) (a : Act) (w : World), wpAnyH P md ops Q S2 fuel listed a w → wpAnyH P md ops Q S fuel listed a w
  | 0, _, _, _, h => h
  | fuel + 1, _, _, _, h => ⟨h.1, fun i hi => wpOp_mono (fun a' w' h' => ⟨hS w' h'.1, wpAnyH_mono hS fuel _ a' w' h'.2⟩) (h.2 i hi)⟩
set_option maxRecDepth 100000 in
set_option maxHeartbeats 16000000 in
theorem drawLineOf (a0 : Option Addr) (len cap : Nat) (w : World) (ha : CodeArg w a0 len cap) :
    Calls Try.prog 35 #[.slice a0 len cap] w fun e w' => ∃ f s d : Int, e = .returned (.tuple #[.int .i64 f, .int .i64 s, .int .i64 d]) ∧ Keep w w' := by
  go_enter Try.func35, Try.ntmps35
  go_wp2_with fail
  refine (open_any a0 len cap _ ha).mono ?_
  rintro e w1 ⟨rfl, hr1, hb, hs⟩
  have hb : Keep w w1 := hb
  go_wp2_with fail
  refine (pick_any _ 0 200 _ (by omega) (by omega) hr1).mono ?_
  rintro e w2 ⟨x, rfl, x0, x1, hr2, ho2, hs2⟩
  go_wp2_with fail
  refine (pick_any _ 1 12 _ (by omega) (by omega) hr2).mono ?_
  rintro e w3 ⟨y, rfl, y0, y1, hr3, ho3, hs3⟩
  go_wp2_with fail
  refine (pick_any _ 2 12 _ (by omega) (by omega) hr3).mono ?_
  rintro e w4 ⟨z, rfl, z0, z1, hr4, ho4, hs4⟩
  rcases (show z = 0 ∨ (z == 0) = false by by_cases h : z = 0 <;> simp [h]) with rfl | hz
  · clear z0 z1 x0 x1 y0 y1
    have KW : Keep w w4 := Only.keep ((((Only.refl _ w1).trans ho2).trans ho3).trans ho4) hb (Nat.le_refl _)
    have hR : Rd w4 w.heap.size 3 := hr4
    clear hr1 hr2 hr3 hr4 ho2 ho3 ho4 hs2 hs3 hs4 hb hs
    go_wp2_with fail
    generalize hBB : w.heap.size = B at hR ⊢
    have hwB : w.heap.size ≤ B := by omega
    replace hR : Rd w4.drew B 3 := hR
    replace KW : Keep w w4.drew := KW.drew
    refine wp_region_held_drew (S := fun _ => True) (by kernel_rfl) trivial (fun hHeld => ?_)
    refine wpAnyH_take (i := 1) (oi := ({ dst := some 20, op := Op.move (Operand.tmp 5), type := 80, pos := "l92_draw.go:343", after := #[], guard := none })) (v := ?v1) rfl (by kernel_rfl) (by kernel_rfl) (by kernel_rfl) (fun _ _ _ h => h) (Or.inl ⟨by rfl, ?hy1⟩) hHeld ?rest1
    case hy1 => (intro w' hSw; (try dsimp only at hSw); go_split_ands; go_simp; try with_reducible rfl)
    try simp only [Act.put, List.setIfInBounds_toArray, List.set_cons_zero, List.set_cons_succ]
    refine wpAnyH_take (i := 6) (oi := ({ dst := some 25, op := Op.move (Operand.tmp 5), type := 80, pos := "l92_draw.go:343", after := #[], guard := none })) (v := ?v2) rfl (by kernel_rfl) (by kernel_rfl) (by kernel_rfl) (fun _ _ _ h => h) (Or.inl ⟨by rfl, ?hy2⟩) hHeld ?rest2
    case hy2 => (intro w' hSw; (try dsimp only at hSw); go_split_ands; go_simp; try with_reducible rfl)
    try simp only [Act.put, List.setIfInBounds_toArray, List.set_cons_zero, List.set_cons_succ]
    refine wpAnyH_take (i := 10) (oi := ({ dst := some 29, op := Op.move (Operand.tmp 5), type := 80, pos := "l92_draw.go:343", after := #[], guard := none })) (v := ?v3) rfl (by kernel_rfl) (by kernel_rfl) (by kernel_rfl) (fun _ _ _ h => h) (Or.inl ⟨by rfl, ?hy3⟩) hHeld ?rest3
    case hy3 => (intro w' hSw; (try dsimp only at hSw); go_split_ands; go_simp; try with_reducible rfl)
    try simp only [Act.put, List.setIfInBounds_toArray, List.set_cons_zero, List.set_cons_succ]
    refine wpAnyH_ready (rs := [0, 2, 5]) (by kernel_rfl) (by simp) ?_
    refine AllReadyH.cons (o := ({ dst := some 19, op := Op.buildSlice 27 3 #[(0, Operand.const (Value.int IntKind.i64 (-1000))), (1, Operand.const (Value.int IntKind.i64 (-999))), (2, Operand.const (Value.int IntKind.i64 10999))], type := 27, pos := "l92_draw.go:343", after := #[], guard := none })) rfl (fun K hK => ?_) ?_
    ·
      go_simp
      have hsz : w4.drew.heap.size < (w4.drew.alloc (.cells #[.int .i64 (-1000), .int .i64 (-999), .int .i64 10999] 3)).heap.size := by simp
      have hbe : w4.drew.heap.size = w4.heap.size := by simp
      have F1 : ∀ x, x < 3 → (w4.drew.alloc (.cells #[.int .i64 (-1000), .int .i64 (-999), .int .i64 10999] 3)).cell? ⟨w4.heap.size, x, none⟩ = some (.int .i64 ([-1000, -999, 10999].getD x 0)) := fun x hx => by rw [← hbe, World.cell?_alloc_new]; rcases (show x = 0 ∨ x = 1 ∨ x = 2 by omega) with rfl | rfl | rfl <;> rfl
      have l1 : w4.heap.size < (w4.drew.alloc (.cells #[.int .i64 (-1000), .int .i64 (-999), .int .i64 10999] 3)).heap.size := by rw [← hbe]; exact hsz
      have n1 : w4.heap.size ≠ B := by rw [← hbe]; exact Nat.ne_of_gt hR.lt
      replace hR := hR.alloc (.cells #[.int .i64 (-1000), .int .i64 (-999), .int .i64 10999] 3)
      replace KW := KW.alloc (.cells #[.int .i64 (-1000), .int .i64 (-999), .int .i64 10999] 3)
      clear hsz hbe
      refine hK.out _ _ trivial (fun hHeld => ?_)
      clear hK K
      try simp only [Act.put, List.setIfInBounds_toArray, List.set_cons_zero, List.set_cons_succ]
      refine wpAnyH_ready (rs := [2, 5]) (by kernel_rfl) (by simp) ?_
      refine AllReadyH.cons (o := ({ dst := some 21, op := Op.call { callee := Callee.value (Operand.func 75), args := #[Operand.tmp 20, Operand.const (Value.int IntKind.i64 3)], argTypes := #[80, 3] }, type := 3, pos := "l92_draw.go:343", after := #[{ on := 1, ground := Ground.data }], guard := none })) rfl (fun K hK => ?_) ?_
      ·
        go_simp
        refine (pick_any B 3 3 _ (by omega) (by omega) hR).mono ?_
        rintro e v4 ⟨i4, rfl, i04, i14, hRn, hon, _⟩
        obtain ⟨j1, rfl⟩ := Int.eq_ofNat_of_zero_le i04
        replace F1 := fun x hx => (hon.cell (w4.heap.size) x l1 n1).trans (F1 x hx)
        replace l1 := Nat.lt_of_lt_of_le l1 hon.size
        replace KW := Only.keep hon KW (by omega)
        replace hR := hRn
        clear hRn hon
        go_simp
        refine hK.out _ _ trivial (fun hHeld => ?_)
        clear hK K
        try simp only [Act.put, List.setIfInBounds_toArray, List.set_cons_zero, List.set_cons_succ]
        obtain ⟨u1, hu1⟩ : ∃ u, [-1000, -999, 10999].getD j1 0 = u := ⟨_, rfl⟩
        have s1 := F1 j1 (by omega)
        rw [hu1] at s1
        clear hu1 F1
        refine wpAnyH_mono (S2 := fun w' => w'.cell? ⟨w4.heap.size, j1, none⟩ = some (.int .i64 u1)) (fun _ h => trivial) _ _ _ _ ?_
        have hHeld : (fun w' => w'.cell? ⟨w4.heap.size, j1, none⟩ = some (.int .i64 u1)) v4 := s1
        refine wpAnyH_take (i := 3) (oi := ({ dst := some 22, op := Op.indexAddr 27 (Operand.tmp 19) (Operand.tmp 21), type := 0, pos := "l92_draw.go:343", after := #[{ on := 0, ground := Ground.data }, { on := 2, ground := Ground.data }], guard := none })) (v := ?v5) rfl (by kernel_rfl) (by kernel_rfl) (by kernel_rfl) (fun _ _ _ h => h) (Or.inl ⟨by rfl, ?hy5⟩) hHeld ?rest5
        case hy5 => (intro w' hSw; (try dsimp only at hSw); go_split_ands; go_simp; try with_reducible rfl)
        try simp only [Act.put, List.setIfInBounds_toArray, List.set_cons_zero, List.set_cons_succ]
        refine wpAnyH_take (i := 4) (oi := ({ dst := some 23, op := Op.load 3 (Operand.tmp 22), type := 3, pos := "l92_draw.go:343", after := #[{ on := 3, ground := Ground.data }], guard := none })) (v := ?v6) rfl (by kernel_rfl) (by kernel_rfl) (by kernel_rfl) (fun _ _ _ h => h) (Or.inl ⟨by rfl, ?hy6⟩) hHeld ?rest6
        case hy6 => (intro w' hSw; (try dsimp only at hSw); go_split_ands; go_simp; try with_reducible rfl)
        try simp only [Act.put, List.setIfInBounds_toArray, List.set_cons_zero, List.set_cons_succ]
        refine wpAnyH_ready (rs := [5, 7]) (by kernel_rfl) (by simp) ?_
        refine AllReadyH.cons (o := ({ dst := some 24, op := Op.buildSlice 27 4 #[(0, Operand.const (Value.int IntKind.i64 (-10000))), (1, Operand.const (Value.int IntKind.i64 9999)), (2, Operand.const (Value.int IntKind.i64 1)), (3, Operand.const (Value.int IntKind.i64 (-1)))], type := 27, pos := "l92_draw.go:343", after := #[{ on := 13, ground := Ground.gcOnly Departure.lateStores }], guard := none })) rfl (fun K hK => ?_) ?_
        ·
          go_simp
          have hsz : v4.heap.size < (v4.alloc (.cells #[.int .i64 (-10000), .int .i64 9999, .int .i64 1, .int .i64 (-1)] 3)).heap.size := by simp
          have hbe : v4.heap.size = v4.heap.size := by simp
          have F2 : ∀ x, x < 4 → (v4.alloc (.cells #[.int .i64 (-10000), .int .i64 9999, .int .i64 1, .int .i64 (-1)] 3)).cell? ⟨v4.heap.size, x, none⟩ = some (.int .i64 ([-10000, 9999, 1, -1].getD x 0)) := fun x hx => by rw [← hbe, World.cell?_alloc_new]; rcases (show x = 0 ∨ x = 1 ∨ x = 2 ∨ x = 3 by omega) with rfl | rfl | rfl | rfl <;> rfl
          have l2 : v4.heap.size < (v4.alloc (.cells #[.int .i64 (-10000), .int .i64 9999, .int .i64 1, .int .i64 (-1)] 3)).heap.size := by rw [← hbe]; exact hsz
          have n2 : v4.heap.size ≠ B := by rw [← hbe]; exact Nat.ne_of_gt hR.lt
          replace s1 := ((Keep.refl v4).alloc (.cells #[.int .i64 (-10000), .int .i64 9999, .int .i64 1, .int .i64 (-1)] 3)).cell s1
          replace l1 := Nat.lt_trans l1 hsz
          replace hR := hR.alloc (.cells #[.int .i64 (-10000), .int .i64 9999, .int .i64 1, .int .i64 (-1)] 3)
          replace KW := KW.alloc (.cells #[.int .i64 (-10000), .int .i64 9999, .int .i64 1, .int .i64 (-1)] 3)
          clear hsz hbe
          refine hK.out _ _ s1 (fun hHeld => ?_)
          clear hK K
          try simp only [Act.put, List.setIfInBounds_toArray, List.set_cons_zero, List.set_cons_succ]
          refine wpAnyH_ready (rs := [7]) (by kernel_rfl) (by simp) ?_
          refine AllReadyH.cons (o := ({ dst := some 26, op := Op.call { callee := Callee.value (Operand.func 75), args := #[Operand.tmp 25, Operand.const (Value.int IntKind.i64 4)], argTypes := #[80, 3] }, type := 3, pos := "l92_draw.go:343", after := #[{ on := 6, ground := Ground.data }, { on := 2, ground := Ground.chain }], guard := none })) rfl (fun K hK => ?_) ?_
          ·
            go_simp
            refine (pick_any B 4 4 _ (by omega) (by omega) hR).mono ?_
            rintro e v7 ⟨i7, rfl, i07, i17, hRn, hon, _⟩
            obtain ⟨j2, rfl⟩ := Int.eq_ofNat_of_zero_le i07
            replace s1 := (hon.cell (w4.heap.size) j1 l1 n1).trans s1
            replace l1 := Nat.lt_of_lt_of_le l1 hon.size
            replace F2 := fun x hx => (hon.cell (v4.heap.size) x l2 n2).trans (F2 x hx)
            replace l2 := Nat.lt_of_lt_of_le l2 hon.size
            replace KW := Only.keep hon KW (by omega)
            replace hR := hRn
            clear hRn hon
            go_simp
            refine hK.out _ _ s1 (fun hHeld => ?_)
            clear hK K
            try simp only [Act.put, List.setIfInBounds_toArray, List.set_cons_zero, List.set_cons_succ]
            obtain ⟨u2, hu2⟩ : ∃ u, [-10000, 9999, 1, -1].getD j2 0 = u := ⟨_, rfl⟩
            have s2 := F2 j2 (by omega)
            rw [hu2] at s2
            clear hu2 F2
            refine wpAnyH_mono (S2 := fun w' => w'.cell? ⟨w4.heap.size, j1, none⟩ = some (.int .i64 u1) ∧ w'.cell? ⟨v4.heap.size, j2, none⟩ = some (.int .i64 u2)) (fun _ h => h.1) _ _ _ _ ?_
            have hHeld : (fun w' => w'.cell? ⟨w4.heap.size, j1, none⟩ = some (.int .i64 u1) ∧ w'.cell? ⟨v4.heap.size, j2, none⟩ = some (.int .i64 u2)) v7 := ⟨s1, s2⟩
            refine wpAnyH_take (i := 8) (oi := ({ dst := some 27, op := Op.indexAddr 27 (Operand.tmp 24) (Operand.tmp 26), type := 0, pos := "l92_draw.go:343", after := #[{ on := 5, ground := Ground.data }, { on := 7, ground := Ground.data }, { on := 13, ground := Ground.gcOnly Departure.lateStores }], guard := none })) (v := ?v8) rfl (by kernel_rfl) (by kernel_rfl) (by kernel_rfl) (fun _ _ _ h => h) (Or.inl ⟨by rfl, ?hy8⟩) hHeld ?rest8
            case hy8 => (intro w' hSw; (try dsimp only at hSw); go_split_ands; go_simp; try with_reducible rfl)
            try simp only [Act.put, List.setIfInBounds_toArray, List.set_cons_zero, List.set_cons_succ]
            refine wpAnyH_take (i := 9) (oi := ({ dst := some 28, op := Op.load 3 (Operand.tmp 27), type := 3, pos := "l92_draw.go:343", after := #[{ on := 8, ground := Ground.data }, { on := 13, ground := Ground.gcOnly Departure.lateStores }], guard := none })) (v := ?v9) rfl (by kernel_rfl) (by kernel_rfl) (by kernel_rfl) (fun _ _ _ h => h) (Or.inl ⟨by rfl, ?hy9⟩) hHeld ?rest9
            case hy9 => (intro w' hSw; (try dsimp only at hSw); go_split_ands; go_simp; try with_reducible rfl)
            try simp only [Act.put, List.setIfInBounds_toArray, List.set_cons_zero, List.set_cons_succ]
            refine wpAnyH_ready (rs := [11]) (by kernel_rfl) (by simp) ?_
            refine AllReadyH.cons (o := ({ dst := some 30, op := Op.call { callee := Callee.value (Operand.func 75), args := #[Operand.tmp 29, Operand.const (Value.int IntKind.i64 3)], argTypes := #[80, 3] }, type := 3, pos := "l92_draw.go:343", after := #[{ on := 10, ground := Ground.data }, { on := 7, ground := Ground.chain }], guard := none })) rfl (fun K hK => ?_) ?_
            ·
              go_simp
              refine (pick_any B 5 3 _ (by omega) (by omega) hR).mono ?_
              rintro e v10 ⟨i10, rfl, i010, i110, hRn, hon, _⟩
              obtain ⟨j3, rfl⟩ := Int.eq_ofNat_of_zero_le i010
              replace s1 := (hon.cell (w4.heap.size) j1 l1 n1).trans s1
              replace l1 := Nat.lt_of_lt_of_le l1 hon.size
              replace s2 := (hon.cell (v4.heap.size) j2 l2 n2).trans s2
              replace l2 := Nat.lt_of_lt_of_le l2 hon.size
              replace KW := Only.keep hon KW (by omega)
              replace hR := hRn
              clear hRn hon
              go_simp
              refine hK.out _ _ ⟨s1, s2⟩ (fun hHeld => ?_)
              clear hK K
              try simp only [Act.put, List.setIfInBounds_toArray, List.set_cons_zero, List.set_cons_succ]
              refine wpAnyH_take (i := 12) (oi := ({ dst := some 31, op := Op.binOp BinOp.mul 3 (Operand.tmp 30) (Operand.const (Value.int IntKind.i64 6)) 3, type := 3, pos := "l92_draw.go:343", after := #[{ on := 11, ground := Ground.data }, { on := 14, ground := Ground.gcOnly Departure.lateStores }], guard := none })) (v := ?v11) rfl (by kernel_rfl) (by kernel_rfl) (by kernel_rfl) (fun _ _ _ h => h) (Or.inl ⟨by rfl, ?hy11⟩) hHeld ?rest11
              case hy11 => (intro w' hSw; (try dsimp only at hSw); go_split_ands; go_simp; try with_reducible rfl)
              try simp only [Act.put, List.setIfInBounds_toArray, List.set_cons_zero, List.set_cons_succ]
              refine wpAnyH_take (i := 13) (oi := ({ dst := some 2, op := Op.assign (Operand.tmp 23), type := 3, pos := "l92_draw.go:343", after := #[{ on := 4, ground := Ground.data }, { on := 11, ground := Ground.chain }, { on := 0, ground := Ground.phase }, { on := 1, ground := Ground.phase }, { on := 2, ground := Ground.phase }, { on := 3, ground := Ground.phase }, { on := 4, ground := Ground.phase }, { on := 5, ground := Ground.textOnly Departure.lateStores }, { on := 6, ground := Ground.textOnly Departure.lateStores }, { on := 7, ground := Ground.textOnly Departure.lateStoresUnsure }, { on := 8, ground := Ground.textOnly Departure.lateStores }, { on := 9, ground := Ground.textOnly Departure.lateStores }, { on := 10, ground := Ground.textOnly Departure.lateStores }, { on := 11, ground := Ground.textOnly Departure.lateStoresUnsure }, { on := 12, ground := Ground.textOnly Departure.lateStores }], guard := none })) (v := ?v12) rfl (by kernel_rfl) (by kernel_rfl) (by kernel_rfl) (fun _ _ _ h => h) (Or.inl ⟨by rfl, ?hy12⟩) hHeld ?rest12
              case hy12 => (intro w' hSw; (try dsimp only at hSw); go_split_ands; go_simp; try with_reducible rfl)
              try simp only [Act.put, List.setIfInBounds_toArray, List.set_cons_zero, List.set_cons_succ]
              refine wpAnyH_take (i := 14) (oi := ({ dst := some 3, op := Op.assign (Operand.tmp 28), type := 3, pos := "l92_draw.go:343", after := #[{ on := 9, ground := Ground.data }, { on := 13, ground := Ground.chain }, { on := 0, ground := Ground.phase }, { on := 1, ground := Ground.phase }, { on := 2, ground := Ground.phase }, { on := 3, ground := Ground.phase }, { on := 4, ground := Ground.phase }, { on := 5, ground := Ground.phase }, { on := 6, ground := Ground.phase }, { on := 7, ground := Ground.phase }, { on := 8, ground := Ground.phase }, { on := 9, ground := Ground.phase }, { on := 10, ground := Ground.textOnly Departure.lateStores }, { on := 11, ground := Ground.textOnly Departure.lateStoresUnsure }, { on := 12, ground := Ground.textOnly Departure.lateStores }, { on := 13, ground := Ground.phase }], guard := none })) (v := ?v13) rfl (by kernel_rfl) (by kernel_rfl) (by kernel_rfl) (fun _ _ _ h => h) (Or.inl ⟨by rfl, ?hy13⟩) hHeld ?rest13
              case hy13 => (intro w' hSw; (try dsimp only at hSw); go_split_ands; go_simp; try with_reducible rfl)
              try simp only [Act.put, List.setIfInBounds_toArray, List.set_cons_zero, List.set_cons_succ]
              refine wpAnyH_take (i := 15) (oi := ({ dst := some 4, op := Op.assign (Operand.tmp 31), type := 3, pos := "l92_draw.go:343", after := #[{ on := 12, ground := Ground.data }, { on := 14, ground := Ground.chain }, { on := 0, ground := Ground.phase }, { on := 1, ground := Ground.phase }, { on := 2, ground := Ground.phase }, { on := 3, ground := Ground.phase }, { on := 4, ground := Ground.phase }, { on := 5, ground := Ground.phase }, { on := 6, ground := Ground.phase }, { on := 7, ground := Ground.phase }, { on := 8, ground := Ground.phase }, { on := 9, ground := Ground.phase }, { on := 10, ground := Ground.phase }, { on := 11, ground := Ground.phase }, { on := 12, ground := Ground.phase }, { on := 13, ground := Ground.phase }, { on := 14, ground := Ground.phase }], guard := none })) (v := ?v14) rfl (by kernel_rfl) (by kernel_rfl) (by kernel_rfl) (fun _ _ _ h => h) (Or.inl ⟨by rfl, ?hy14⟩) hHeld ?rest14
              case hy14 => (intro w' hSw; (try dsimp only at hSw); go_split_ands; go_simp; try with_reducible rfl)
              try simp only [Act.put, List.setIfInBounds_toArray, List.set_cons_zero, List.set_cons_succ]
              refine wpAnyH_done (by kernel_rfl) ?_ _
              clear hR s1 s2 l1 l2 n1 n2
              go_wp2
              go_ret3
              exact ⟨⟨_, _, _, rfl⟩, KW⟩
            exact AllReadyH.nil
          exact AllReadyH.nil
        refine AllReadyH.cons (o := ({ dst := some 26, op := Op.call { callee := Callee.value (Operand.func 75), args := #[Operand.tmp 25, Operand.const (Value.int IntKind.i64 4)], argTypes := #[80, 3] }, type := 3, pos := "l92_draw.go:343", after := #[{ on := 6, ground := Ground.data }, { on := 2, ground := Ground.chain }], guard := none })) rfl (fun K hK => ?_) ?_
        ·
          go_simp
          refine (pick_any B 4 4 _ (by omega) (by omega) hR).mono ?_
          rintro e v15 ⟨i15, rfl, i015, i115, hRn, hon, _⟩
          obtain ⟨j2, rfl⟩ := Int.eq_ofNat_of_zero_le i015
          replace s1 := (hon.cell (w4.heap.size) j1 l1 n1).trans s1
          replace l1 := Nat.lt_of_lt_of_le l1 hon.size
          replace KW := Only.keep hon KW (by omega)
          replace hR := hRn
          clear hRn hon
          go_simp
          refine hK.out _ _ s1 (fun hHeld => ?_)
          clear hK K
          try simp only [Act.put, List.setIfInBounds_toArray, List.set_cons_zero, List.set_cons_succ]
          refine wpAnyH_ready (rs := [5, 11]) (by kernel_rfl) (by simp) ?_
          refine AllReadyH.cons (o := ({ dst := some 24, op := Op.buildSlice 27 4 #[(0, Operand.const (Value.int IntKind.i64 (-10000))), (1, Operand.const (Value.int IntKind.i64 9999)), (2, Operand.const (Value.int IntKind.i64 1)), (3, Operand.const (Value.int IntKind.i64 (-1)))], type := 27, pos := "l92_draw.go:343", after := #[{ on := 13, ground := Ground.gcOnly Departure.lateStores }], guard := none })) rfl (fun K hK => ?_) ?_
          ·
            go_simp
            have hsz : v15.heap.size < (v15.alloc (.cells #[.int .i64 (-10000), .int .i64 9999, .int .i64 1, .int .i64 (-1)] 3)).heap.size := by simp
            have hbe : v15.heap.size = v15.heap.size := by simp
            have F2 : ∀ x, x < 4 → (v15.alloc (.cells #[.int .i64 (-10000), .int .i64 9999, .int .i64 1, .int .i64 (-1)] 3)).cell? ⟨v15.heap.size, x, none⟩ = some (.int .i64 ([-10000, 9999, 1, -1].getD x 0)) := fun x hx => by rw [← hbe, World.cell?_alloc_new]; rcases (show x = 0 ∨ x = 1 ∨ x = 2 ∨ x = 3 by omega) with rfl | rfl | rfl | rfl <;> rfl
            have l2 : v15.heap.size < (v15.alloc (.cells #[.int .i64 (-10000), .int .i64 9999, .int .i64 1, .int .i64 (-1)] 3)).heap.size := by rw [← hbe]; exact hsz
            have n2 : v15.heap.size ≠ B := by rw [← hbe]; exact Nat.ne_of_gt hR.lt
            replace s1 := ((Keep.refl v15).alloc (.cells #[.int .i64 (-10000), .int .i64 9999, .int .i64 1, .int .i64 (-1)] 3)).cell s1
            replace l1 := Nat.lt_trans l1 hsz
            replace hR := hR.alloc (.cells #[.int .i64 (-10000), .int .i64 9999, .int .i64 1, .int .i64 (-1)] 3)
            replace KW := KW.alloc (.cells #[.int .i64 (-10000), .int .i64 9999, .int .i64 1, .int .i64 (-1)] 3)
            clear hsz hbe
            refine hK.out _ _ s1 (fun hHeld => ?_)
            clear hK K
            try simp only [Act.put, List.setIfInBounds_toArray, List.set_cons_zero, List.set_cons_succ]
            obtain ⟨u2, hu2⟩ : ∃ u, [-10000, 9999, 1, -1].getD j2 0 = u := ⟨_, rfl⟩
            have s2 := F2 j2 (by omega)
            rw [hu2] at s2
            clear hu2 F2
            refine wpAnyH_mono (S2 := fun w' => w'.cell? ⟨w4.heap.size, j1, none⟩ = some (.int .i64 u1) ∧ w'.cell? ⟨v15.heap.size, j2, none⟩ = some (.int .i64 u2)) (fun _ h => h.1) _ _ _ _ ?_
            have hHeld : (fun w' => w'.cell? ⟨w4.heap.size, j1, none⟩ = some (.int .i64 u1) ∧ w'.cell? ⟨v15.heap.size, j2, none⟩ = some (.int .i64 u2)) (v15.alloc (.cells #[.int .i64 (-10000), .int .i64 9999, .int .i64 1, .int .i64 (-1)] 3)) := ⟨s1, s2⟩
            refine wpAnyH_take (i := 8) (oi := ({ dst := some 27, op := Op.indexAddr 27 (Operand.tmp 24) (Operand.tmp 26), type := 0, pos := "l92_draw.go:343", after := #[{ on := 5, ground := Ground.data }, { on := 7, ground := Ground.data }, { on := 13, ground := Ground.gcOnly Departure.lateStores }], guard := none })) (v := ?v16) rfl (by kernel_rfl) (by kernel_rfl) (by kernel_rfl) (fun _ _ _ h => h) (Or.inl ⟨by rfl, ?hy16⟩) hHeld ?rest16
            case hy16 => (intro w' hSw; (try dsimp only at hSw); go_split_ands; go_simp; try with_reducible rfl)
            try simp only [Act.put, List.setIfInBounds_toArray, List.set_cons_zero, List.set_cons_succ]
            refine wpAnyH_take (i := 9) (oi := ({ dst := some 28, op := Op.load 3 (Operand.tmp 27), type := 3, pos := "l92_draw.go:343", after := #[{ on := 8, ground := Ground.data }, { on := 13, ground := Ground.gcOnly Departure.lateStores }], guard := none })) (v := ?v17) rfl (by kernel_rfl) (by kernel_rfl) (by kernel_rfl) (fun _ _ _ h => h) (Or.inl ⟨by rfl, ?hy17⟩) hHeld ?rest17
            case hy17 => (intro w' hSw; (try dsimp only at hSw); go_split_ands; go_simp; try with_reducible rfl)
            try simp only [Act.put, List.setIfInBounds_toArray, List.set_cons_zero, List.set_cons_succ]
            refine wpAnyH_ready (rs := [11]) (by kernel_rfl) (by simp) ?_
            refine AllReadyH.cons (o := ({ dst := some 30, op := Op.call { callee := Callee.value (Operand.func 75), args := #[Operand.tmp 29, Operand.const (Value.int IntKind.i64 3)], argTypes := #[80, 3] }, type := 3, pos := "l92_draw.go:343", after := #[{ on := 10, ground := Ground.data }, { on := 7, ground := Ground.chain }], guard := none })) rfl (fun K hK => ?_) ?_
            ·
              go_simp
              refine (pick_any B 5 3 _ (by omega) (by omega) hR).mono ?_
              rintro e v18 ⟨i18, rfl, i018, i118, hRn, hon, _⟩
              obtain ⟨j3, rfl⟩ := Int.eq_ofNat_of_zero_le i018
              replace s1 := (hon.cell (w4.heap.size) j1 l1 n1).trans s1
              replace l1 := Nat.lt_of_lt_of_le l1 hon.size
              replace s2 := (hon.cell (v15.heap.size) j2 l2 n2).trans s2
              replace l2 := Nat.lt_of_lt_of_le l2 hon.size
              replace KW := Only.keep hon KW (by omega)
              replace hR := hRn
              clear hRn hon
              go_simp
              refine hK.out _ _ ⟨s1, s2⟩ (fun hHeld => ?_)
              clear hK K
              try simp only [Act.put, List.setIfInBounds_toArray, List.set_cons_zero, List.set_cons_succ]
              refine wpAnyH_take (i := 12) (oi := ({ dst := some 31, op := Op.binOp BinOp.mul 3 (Operand.tmp 30) (Operand.const (Value.int IntKind.i64 6)) 3, type := 3, pos := "l92_draw.go:343", after := #[{ on := 11, ground := Ground.data }, { on := 14, ground := Ground.gcOnly Departure.lateStores }], guard := none })) (v := ?v19) rfl (by kernel_rfl) (by kernel_rfl) (by kernel_rfl) (fun _ _ _ h => h) (Or.inl ⟨by rfl, ?hy19⟩) hHeld ?rest19
              case hy19 => (intro w' hSw; (try dsimp only at hSw); go_split_ands; go_simp; try with_reducible rfl)
              try simp only [Act.put, List.setIfInBounds_toArray, List.set_cons_zero, List.set_cons_succ]
              refine wpAnyH_take (i := 13) (oi := ({ dst := some 2, op := Op.assign (Operand.tmp 23), type := 3, pos := "l92_draw.go:343", after := #[{ on := 4, ground := Ground.data }, { on := 11, ground := Ground.chain }, { on := 0, ground := Ground.phase }, { on := 1, ground := Ground.phase }, { on := 2, ground := Ground.phase }, { on := 3, ground := Ground.phase }, { on := 4, ground := Ground.phase }, { on := 5, ground := Ground.textOnly Departure.lateStores }, { on := 6, ground := Ground.textOnly Departure.lateStores }, { on := 7, ground := Ground.textOnly Departure.lateStoresUnsure }, { on := 8, ground := Ground.textOnly Departure.lateStores }, { on := 9, ground := Ground.textOnly Departure.lateStores }, { on := 10, ground := Ground.textOnly Departure.lateStores }, { on := 11, ground := Ground.textOnly Departure.lateStoresUnsure }, { on := 12, ground := Ground.textOnly Departure.lateStores }], guard := none })) (v := ?v20) rfl (by kernel_rfl) (by kernel_rfl) (by kernel_rfl) (fun _ _ _ h => h) (Or.inl ⟨by rfl, ?hy20⟩) hHeld ?rest20
              case hy20 => (intro w' hSw; (try dsimp only at hSw); go_split_ands; go_simp; try with_reducible rfl)
              try simp only [Act.put, List.setIfInBounds_toArray, List.set_cons_zero, List.set_cons_succ]
              refine wpAnyH_take (i := 14) (oi := ({ dst := some 3, op := Op.assign (Operand.tmp 28), type := 3, pos := "l92_draw.go:343", after := #[{ on := 9, ground := Ground.data }, { on := 13, ground := Ground.chain }, { on := 0, ground := Ground.phase }, { on := 1, ground := Ground.phase }, { on := 2, ground := Ground.phase }, { on := 3, ground := Ground.phase }, { on := 4, ground := Ground.phase }, { on := 5, ground := Ground.phase }, { on := 6, ground := Ground.phase }, { on := 7, ground := Ground.phase }, { on := 8, ground := Ground.phase }, { on := 9, ground := Ground.phase }, { on := 10, ground := Ground.textOnly Departure.lateStores }, { on := 11, ground := Ground.textOnly Departure.lateStoresUnsure }, { on := 12, ground := Ground.textOnly Departure.lateStores }, { on := 13, ground := Ground.phase }], guard := none })) (v := ?v21) rfl (by kernel_rfl) (by kernel_rfl) (by kernel_rfl) (fun _ _ _ h => h) (Or.inl ⟨by rfl, ?hy21⟩) hHeld ?rest21
              case hy21 => (intro w' hSw; (try dsimp only at hSw); go_split_ands; go_simp; try with_reducible rfl)
              try simp only [Act.put, List.setIfInBounds_toArray, List.set_cons_zero, List.set_cons_succ]
              refine wpAnyH_take (i := 15) (oi := ({ dst := some 4, op := Op.assign (Operand.tmp 31), type := 3, pos := "l92_draw.go:343", after := #[{ on := 12, ground := Ground.data }, { on := 14, ground := Ground.chain }, { on := 0, ground := Ground.phase }, { on := 1, ground := Ground.phase }, { on := 2, ground := Ground.phase }, { on := 3, ground := Ground.phase }, { on := 4, ground := Ground.phase }, { on := 5, ground := Ground.phase }, { on := 6, ground := Ground.phase }, { on := 7, ground := Ground.phase }, { on := 8, ground := Ground.phase }, { on := 9, ground := Ground.phase }, { on := 10, ground := Ground.phase }, { on := 11, ground := Ground.phase }, { on := 12, ground := Ground.phase }, { on := 13, ground := Ground.phase }, { on := 14, ground := Ground.phase }], guard := none })) (v := ?v22) rfl (by kernel_rfl) (by kernel_rfl) (by kernel_rfl) (fun _ _ _ h => h) (Or.inl ⟨by rfl, ?hy22⟩) hHeld ?rest22
              case hy22 => (intro w' hSw; (try dsimp only at hSw); go_split_ands; go_simp; try with_reducible rfl)
              try simp only [Act.put, List.setIfInBounds_toArray, List.set_cons_zero, List.set_cons_succ]
              refine wpAnyH_done (by kernel_rfl) ?_ _
              clear hR s1 s2 l1 l2 n1 n2
              go_wp2
              go_ret3
              exact ⟨⟨_, _, _, rfl⟩, KW⟩
            exact AllReadyH.nil
          refine AllReadyH.cons (o := ({ dst := some 30, op := Op.call { callee := Callee.value (Operand.func 75), args := #[Operand.tmp 29, Operand.const (Value.int IntKind.i64 3)], argTypes := #[80, 3] }, type := 3, pos := "l92_draw.go:343", after := #[{ on := 10, ground := Ground.data }, { on := 7, ground := Ground.chain }], guard := none })) rfl (fun K hK => ?_) ?_
          ·
            go_simp
            refine (pick_any B 5 3 _ (by omega) (by omega) hR).mono ?_
            rintro e v23 ⟨i23, rfl, i023, i123, hRn, hon, _⟩
            obtain ⟨j3, rfl⟩ := Int.eq_ofNat_of_zero_le i023
            replace s1 := (hon.cell (w4.heap.size) j1 l1 n1).trans s1
            replace l1 := Nat.lt_of_lt_of_le l1 hon.size
            replace KW := Only.keep hon KW (by omega)
            replace hR := hRn
            clear hRn hon
            go_simp
            refine hK.out _ _ s1 (fun hHeld => ?_)
            clear hK K
            try simp only [Act.put, List.setIfInBounds_toArray, List.set_cons_zero, List.set_cons_succ]
            refine wpAnyH_take (i := 12) (oi := ({ dst := some 31, op := Op.binOp BinOp.mul 3 (Operand.tmp 30) (Operand.const (Value.int IntKind.i64 6)) 3, type := 3, pos := "l92_draw.go:343", after := #[{ on := 11, ground := Ground.data }, { on := 14, ground := Ground.gcOnly Departure.lateStores }], guard := none })) (v := ?v24) rfl (by kernel_rfl) (by kernel_rfl) (by kernel_rfl) (fun _ _ _ h => h) (Or.inl ⟨by rfl, ?hy24⟩) hHeld ?rest24
            case hy24 => (intro w' hSw; (try dsimp only at hSw); go_split_ands; go_simp; try with_reducible rfl)
            try simp only [Act.put, List.setIfInBounds_toArray, List.set_cons_zero, List.set_cons_succ]
            refine wpAnyH_take (i := 13) (oi := ({ dst := some 2, op := Op.assign (Operand.tmp 23), type := 3, pos := "l92_draw.go:343", after := #[{ on := 4, ground := Ground.data }, { on := 11, ground := Ground.chain }, { on := 0, ground := Ground.phase }, { on := 1, ground := Ground.phase }, { on := 2, ground := Ground.phase }, { on := 3, ground := Ground.phase }, { on := 4, ground := Ground.phase }, { on := 5, ground := Ground.textOnly Departure.lateStores }, { on := 6, ground := Ground.textOnly Departure.lateStores }, { on := 7, ground := Ground.textOnly Departure.lateStoresUnsure }, { on := 8, ground := Ground.textOnly Departure.lateStores }, { on := 9, ground := Ground.textOnly Departure.lateStores }, { on := 10, ground := Ground.textOnly Departure.lateStores }, { on := 11, ground := Ground.textOnly Departure.lateStoresUnsure }, { on := 12, ground := Ground.textOnly Departure.lateStores }], guard := none })) (v := ?v25) rfl (by kernel_rfl) (by kernel_rfl) (by kernel_rfl) (fun _ _ _ h => h) (Or.inl ⟨by rfl, ?hy25⟩) hHeld ?rest25
            case hy25 => (intro w' hSw; (try dsimp only at hSw); go_split_ands; go_simp; try with_reducible rfl)
            try simp only [Act.put, List.setIfInBounds_toArray, List.set_cons_zero, List.set_cons_succ]
            refine wpAnyH_ready (rs := [5]) (by kernel_rfl) (by simp) ?_
            refine AllReadyH.cons (o := ({ dst := some 24, op := Op.buildSlice 27 4 #[(0, Operand.const (Value.int IntKind.i64 (-10000))), (1, Operand.const (Value.int IntKind.i64 9999)), (2, Operand.const (Value.int IntKind.i64 1)), (3, Operand.const (Value.int IntKind.i64 (-1)))], type := 27, pos := "l92_draw.go:343", after := #[{ on := 13, ground := Ground.gcOnly Departure.lateStores }], guard := none })) rfl (fun K hK => ?_) ?_
            ·
              go_simp
              have hsz : v23.heap.size < (v23.alloc (.cells #[.int .i64 (-10000), .int .i64 9999, .int .i64 1, .int .i64 (-1)] 3)).heap.size := by simp
              have hbe : v23.heap.size = v23.heap.size := by simp
              have F2 : ∀ x, x < 4 → (v23.alloc (.cells #[.int .i64 (-10000), .int .i64 9999, .int .i64 1, .int .i64 (-1)] 3)).cell? ⟨v23.heap.size, x, none⟩ = some (.int .i64 ([-10000, 9999, 1, -1].getD x 0)) := fun x hx => by rw [← hbe, World.cell?_alloc_new]; rcases (show x = 0 ∨ x = 1 ∨ x = 2 ∨ x = 3 by omega) with rfl | rfl | rfl | rfl <;> rfl
              have l2 : v23.heap.size < (v23.alloc (.cells #[.int .i64 (-10000), .int .i64 9999, .int .i64 1, .int .i64 (-1)] 3)).heap.size := by rw [← hbe]; exact hsz
              have n2 : v23.heap.size ≠ B := by rw [← hbe]; exact Nat.ne_of_gt hR.lt
              replace s1 := ((Keep.refl v23).alloc (.cells #[.int .i64 (-10000), .int .i64 9999, .int .i64 1, .int .i64 (-1)] 3)).cell s1
              replace l1 := Nat.lt_trans l1 hsz
              replace hR := hR.alloc (.cells #[.int .i64 (-10000), .int .i64 9999, .int .i64 1, .int .i64 (-1)] 3)
              replace KW := KW.alloc (.cells #[.int .i64 (-10000), .int .i64 9999, .int .i64 1, .int .i64 (-1)] 3)
              clear hsz hbe
              refine hK.out _ _ s1 (fun hHeld => ?_)
              clear hK K
              try simp only [Act.put, List.setIfInBounds_toArray, List.set_cons_zero, List.set_cons_succ]
              obtain ⟨u2, hu2⟩ : ∃ u, [-10000, 9999, 1, -1].getD j2 0 = u := ⟨_, rfl⟩
              have s2 := F2 j2 (by omega)
              rw [hu2] at s2
              clear hu2 F2
              refine wpAnyH_mono (S2 := fun w' => w'.cell? ⟨w4.heap.size, j1, none⟩ = some (.int .i64 u1) ∧ w'.cell? ⟨v23.heap.size, j2, none⟩ = some (.int .i64 u2)) (fun _ h => h.1) _ _ _ _ ?_
              have hHeld : (fun w' => w'.cell? ⟨w4.heap.size, j1, none⟩ = some (.int .i64 u1) ∧ w'.cell? ⟨v23.heap.size, j2, none⟩ = some (.int .i64 u2)) (v23.alloc (.cells #[.int .i64 (-10000), .int .i64 9999, .int .i64 1, .int .i64 (-1)] 3)) := ⟨s1, s2⟩
              refine wpAnyH_take (i := 8) (oi := ({ dst := some 27, op := Op.indexAddr 27 (Operand.tmp 24) (Operand.tmp 26), type := 0, pos := "l92_draw.go:343", after := #[{ on := 5, ground := Ground.data }, { on := 7, ground := Ground.data }, { on := 13, ground := Ground.gcOnly Departure.lateStores }], guard := none })) (v := ?v26) rfl (by kernel_rfl) (by kernel_rfl) (by kernel_rfl) (fun _ _ _ h => h) (Or.inl ⟨by rfl, ?hy26⟩) hHeld ?rest26
              case hy26 => (intro w' hSw; (try dsimp only at hSw); go_split_ands; go_simp; try with_reducible rfl)
              try simp only [Act.put, List.setIfInBounds_toArray, List.set_cons_zero, List.set_cons_succ]
              refine wpAnyH_take (i := 9) (oi := ({ dst := some 28, op := Op.load 3 (Operand.tmp 27), type := 3, pos := "l92_draw.go:343", after := #[{ on := 8, ground := Ground.data }, { on := 13, ground := Ground.gcOnly Departure.lateStores }], guard := none })) (v := ?v27) rfl (by kernel_rfl) (by kernel_rfl) (by kernel_rfl) (fun _ _ _ h => h) (Or.inl ⟨by rfl, ?hy27⟩) hHeld ?rest27
              case hy27 => (intro w' hSw; (try dsimp only at hSw); go_split_ands; go_simp; try with_reducible rfl)
              try simp only [Act.put, List.setIfInBounds_toArray, List.set_cons_zero, List.set_cons_succ]
              refine wpAnyH_take (i := 14) (oi := ({ dst := some 3, op := Op.assign (Operand.tmp 28), type := 3, pos := "l92_draw.go:343", after := #[{ on := 9, ground := Ground.data }, { on := 13, ground := Ground.chain }, { on := 0, ground := Ground.phase }, { on := 1, ground := Ground.phase }, { on := 2, ground := Ground.phase }, { on := 3, ground := Ground.phase }, { on := 4, ground := Ground.phase }, { on := 5, ground := Ground.phase }, { on := 6, ground := Ground.phase }, { on := 7, ground := Ground.phase }, { on := 8, ground := Ground.phase }, { on := 9, ground := Ground.phase }, { on := 10, ground := Ground.textOnly Departure.lateStores }, { on := 11, ground := Ground.textOnly Departure.lateStoresUnsure }, { on := 12, ground := Ground.textOnly Departure.lateStores }, { on := 13, ground := Ground.phase }], guard := none })) (v := ?v28) rfl (by kernel_rfl) (by kernel_rfl) (by kernel_rfl) (fun _ _ _ h => h) (Or.inl ⟨by rfl, ?hy28⟩) hHeld ?rest28
              case hy28 => (intro w' hSw; (try dsimp only at hSw); go_split_ands; go_simp; try with_reducible rfl)
              try simp only [Act.put, List.setIfInBounds_toArray, List.set_cons_zero, List.set_cons_succ]
              refine wpAnyH_take (i := 15) (oi := ({ dst := some 4, op := Op.assign (Operand.tmp 31), type := 3, pos := "l92_draw.go:343", after := #[{ on := 12, ground := Ground.data }, { on := 14, ground := Ground.chain }, { on := 0, ground := Ground.phase }, { on := 1, ground := Ground.phase }, { on := 2, ground := Ground.phase }, { on := 3, ground := Ground.phase }, { on := 4, ground := Ground.phase }, { on := 5, ground := Ground.phase }, { on := 6, ground := Ground.phase }, { on := 7, ground := Ground.phase }, { on := 8, ground := Ground.phase }, { on := 9, ground := Ground.phase }, { on := 10, ground := Ground.phase }, { on := 11, ground := Ground.phase }, { on := 12, ground := Ground.phase }, { on := 13, ground := Ground.phase }, { on := 14, ground := Ground.phase }], guard := none })) (v := ?v29) rfl (by kernel_rfl) (by kernel_rfl) (by kernel_rfl) (fun _ _ _ h => h) (Or.inl ⟨by rfl, ?hy29⟩) hHeld ?rest29
              case hy29 => (intro w' hSw; (try dsimp only at hSw); go_split_ands; go_simp; try with_reducible rfl)
              try simp only [Act.put, List.setIfInBounds_toArray, List.set_cons_zero, List.set_cons_succ]
              refine wpAnyH_done (by kernel_rfl) ?_ _
              clear hR s1 s2 l1 l2 n1 n2
              go_wp2
              go_ret3
              exact ⟨⟨_, _, _, rfl⟩, KW⟩
            exact AllReadyH.nil
          exact AllReadyH.nil
        exact AllReadyH.nil
      refine AllReadyH.cons (o := ({ dst := some 24, op := Op.buildSlice 27 4 #[(0, Operand.const (Value.int IntKind.i64 (-10000))), (1, Operand.const (Value.int IntKind.i64 9999)), (2, Operand.const (Value.int IntKind.i64 1)), (3, Operand.const (Value.int IntKind.i64 (-1)))], type := 27, pos := "l92_draw.go:343", after := #[{ on := 13, ground := Ground.gcOnly Departure.lateStores }], guard := none })) rfl (fun K hK => ?_) ?_
      ·
        go_simp
        have hsz : (w4.drew.alloc (.cells #[.int .i64 (-1000), .int .i64 (-999), .int .i64 10999] 3)).heap.size < ((w4.drew.alloc (.cells #[.int .i64 (-1000), .int .i64 (-999), .int .i64 10999] 3)).alloc (.cells #[.int .i64 (-10000), .int .i64 9999, .int .i64 1, .int .i64 (-1)] 3)).heap.size := by simp
        have hbe : (w4.drew.alloc (.cells #[.int .i64 (-1000), .int .i64 (-999), .int .i64 10999] 3)).heap.size = w4.heap.size + 1 := by simp
        have F2 : ∀ x, x < 4 → ((w4.drew.alloc (.cells #[.int .i64 (-1000), .int .i64 (-999), .int .i64 10999] 3)).alloc (.cells #[.int .i64 (-10000), .int .i64 9999, .int .i64 1, .int .i64 (-1)] 3)).cell? ⟨w4.heap.size + 1, x, none⟩ = some (.int .i64 ([-10000, 9999, 1, -1].getD x 0)) := fun x hx => by rw [← hbe, World.cell?_alloc_new]; rcases (show x = 0 ∨ x = 1 ∨ x = 2 ∨ x = 3 by omega) with rfl | rfl | rfl | rfl <;> rfl
        have l2 : w4.heap.size + 1 < ((w4.drew.alloc (.cells #[.int .i64 (-1000), .int .i64 (-999), .int .i64 10999] 3)).alloc (.cells #[.int .i64 (-10000), .int .i64 9999, .int .i64 1, .int .i64 (-1)] 3)).heap.size := by rw [← hbe]; exact hsz
        have n2 : w4.heap.size + 1 ≠ B := by rw [← hbe]; exact Nat.ne_of_gt hR.lt
        replace F1 := fun x hx => ((Keep.refl (w4.drew.alloc (.cells #[.int .i64 (-1000), .int .i64 (-999), .int .i64 10999] 3))).alloc (.cells #[.int .i64 (-10000), .int .i64 9999, .int .i64 1, .int .i64 (-1)] 3)).cell (F1 x hx)
        replace l1 := Nat.lt_trans l1 hsz
        replace hR := hR.alloc (.cells #[.int .i64 (-10000), .int .i64 9999, .int .i64 1, .int .i64 (-1)] 3)
        replace KW := KW.alloc (.cells #[.int .i64 (-10000), .int .i64 9999, .int .i64 1, .int .i64 (-1)] 3)
        clear hsz hbe
        refine hK.out _ _ trivial (fun hHeld => ?_)
        clear hK K
        try simp only [Act.put, List.setIfInBounds_toArray, List.set_cons_zero, List.set_cons_succ]
        refine wpAnyH_ready (rs := [2]) (by kernel_rfl) (by simp) ?_
        refine AllReadyH.cons (o := ({ dst := some 21, op := Op.call { callee := Callee.value (Operand.func 75), args := #[Operand.tmp 20, Operand.const (Value.int IntKind.i64 3)], argTypes := #[80, 3] }, type := 3, pos := "l92_draw.go:343", after := #[{ on := 1, ground := Ground.data }], guard := none })) rfl (fun K hK => ?_) ?_
        ·
          go_simp
          refine (pick_any B 3 3 _ (by omega) (by omega) hR).mono ?_
          rintro e v30 ⟨i30, rfl, i030, i130, hRn, hon, _⟩
          obtain ⟨j1, rfl⟩ := Int.eq_ofNat_of_zero_le i030
          replace F1 := fun x hx => (hon.cell (w4.heap.size) x l1 n1).trans (F1 x hx)
          replace l1 := Nat.lt_of_lt_of_le l1 hon.size
          replace F2 := fun x hx => (hon.cell (w4.heap.size + 1) x l2 n2).trans (F2 x hx)
          replace l2 := Nat.lt_of_lt_of_le l2 hon.size
          replace KW := Only.keep hon KW (by omega)
          replace hR := hRn
          clear hRn hon
          go_simp
          refine hK.out _ _ trivial (fun hHeld => ?_)
          clear hK K
          try simp only [Act.put, List.setIfInBounds_toArray, List.set_cons_zero, List.set_cons_succ]
          obtain ⟨u1, hu1⟩ : ∃ u, [-1000, -999, 10999].getD j1 0 = u := ⟨_, rfl⟩
          have s1 := F1 j1 (by omega)
          rw [hu1] at s1
          clear hu1 F1
          refine wpAnyH_mono (S2 := fun w' => w'.cell? ⟨w4.heap.size, j1, none⟩ = some (.int .i64 u1)) (fun _ h => trivial) _ _ _ _ ?_
          have hHeld : (fun w' => w'.cell? ⟨w4.heap.size, j1, none⟩ = some (.int .i64 u1)) v30 := s1
          refine wpAnyH_take (i := 3) (oi := ({ dst := some 22, op := Op.indexAddr 27 (Operand.tmp 19) (Operand.tmp 21), type := 0, pos := "l92_draw.go:343", after := #[{ on := 0, ground := Ground.data }, { on := 2, ground := Ground.data }], guard := none })) (v := ?v31) rfl (by kernel_rfl) (by kernel_rfl) (by kernel_rfl) (fun _ _ _ h => h) (Or.inl ⟨by rfl, ?hy31⟩) hHeld ?rest31
          case hy31 => (intro w' hSw; (try dsimp only at hSw); go_split_ands; go_simp; try with_reducible rfl)
          try simp only [Act.put, List.setIfInBounds_toArray, List.set_cons_zero, List.set_cons_succ]
          refine wpAnyH_take (i := 4) (oi := ({ dst := some 23, op := Op.load 3 (Operand.tmp 22), type := 3, pos := "l92_draw.go:343", after := #[{ on := 3, ground := Ground.data }], guard := none })) (v := ?v32) rfl (by kernel_rfl) (by kernel_rfl) (by kernel_rfl) (fun _ _ _ h => h) (Or.inl ⟨by rfl, ?hy32⟩) hHeld ?rest32
          case hy32 => (intro w' hSw; (try dsimp only at hSw); go_split_ands; go_simp; try with_reducible rfl)
          try simp only [Act.put, List.setIfInBounds_toArray, List.set_cons_zero, List.set_cons_succ]
          refine wpAnyH_ready (rs := [7]) (by kernel_rfl) (by simp) ?_
          refine AllReadyH.cons (o := ({ dst := some 26, op := Op.call { callee := Callee.value (Operand.func 75), args := #[Operand.tmp 25, Operand.const (Value.int IntKind.i64 4)], argTypes := #[80, 3] }, type := 3, pos := "l92_draw.go:343", after := #[{ on := 6, ground := Ground.data }, { on := 2, ground := Ground.chain }], guard := none })) rfl (fun K hK => ?_) ?_
          ·
            go_simp
            refine (pick_any B 4 4 _ (by omega) (by omega) hR).mono ?_
            rintro e v33 ⟨i33, rfl, i033, i133, hRn, hon, _⟩
            obtain ⟨j2, rfl⟩ := Int.eq_ofNat_of_zero_le i033
            replace s1 := (hon.cell (w4.heap.size) j1 l1 n1).trans s1
            replace l1 := Nat.lt_of_lt_of_le l1 hon.size
            replace F2 := fun x hx => (hon.cell (w4.heap.size + 1) x l2 n2).trans (F2 x hx)
            replace l2 := Nat.lt_of_lt_of_le l2 hon.size
            replace KW := Only.keep hon KW (by omega)
            replace hR := hRn
            clear hRn hon
            go_simp
            refine hK.out _ _ s1 (fun hHeld => ?_)
            clear hK K
            try simp only [Act.put, List.setIfInBounds_toArray, List.set_cons_zero, List.set_cons_succ]
            obtain ⟨u2, hu2⟩ : ∃ u, [-10000, 9999, 1, -1].getD j2 0 = u := ⟨_, rfl⟩
            have s2 := F2 j2 (by omega)
            rw [hu2] at s2
            clear hu2 F2
            refine wpAnyH_mono (S2 := fun w' => w'.cell? ⟨w4.heap.size, j1, none⟩ = some (.int .i64 u1) ∧ w'.cell? ⟨w4.heap.size + 1, j2, none⟩ = some (.int .i64 u2)) (fun _ h => h.1) _ _ _ _ ?_
            have hHeld : (fun w' => w'.cell? ⟨w4.heap.size, j1, none⟩ = some (.int .i64 u1) ∧ w'.cell? ⟨w4.heap.size + 1, j2, none⟩ = some (.int .i64 u2)) v33 := ⟨s1, s2⟩
            refine wpAnyH_take (i := 8) (oi := ({ dst := some 27, op := Op.indexAddr 27 (Operand.tmp 24) (Operand.tmp 26), type := 0, pos := "l92_draw.go:343", after := #[{ on := 5, ground := Ground.data }, { on := 7, ground := Ground.data }, { on := 13, ground := Ground.gcOnly Departure.lateStores }], guard := none })) (v := ?v34) rfl (by kernel_rfl) (by kernel_rfl) (by kernel_rfl) (fun _ _ _ h => h) (Or.inl ⟨by rfl, ?hy34⟩) hHeld ?rest34
            case hy34 => (intro w' hSw; (try dsimp only at hSw); go_split_ands; go_simp; try with_reducible rfl)
            try simp only [Act.put, List.setIfInBounds_toArray, List.set_cons_zero, List.set_cons_succ]
            refine wpAnyH_take (i := 9) (oi := ({ dst := some 28, op := Op.load 3 (Operand.tmp 27), type := 3, pos := "l92_draw.go:343", after := #[{ on := 8, ground := Ground.data }, { on := 13, ground := Ground.gcOnly Departure.lateStores }], guard := none })) (v := ?v35) rfl (by kernel_rfl) (by kernel_rfl) (by kernel_rfl) (fun _ _ _ h => h) (Or.inl ⟨by rfl, ?hy35⟩) hHeld ?rest35
            case hy35 => (intro w' hSw; (try dsimp only at hSw); go_split_ands; go_simp; try with_reducible rfl)
            try simp only [Act.put, List.setIfInBounds_toArray, List.set_cons_zero, List.set_cons_succ]
            refine wpAnyH_ready (rs := [11]) (by kernel_rfl) (by simp) ?_
            refine AllReadyH.cons (o := ({ dst := some 30, op := Op.call { callee := Callee.value (Operand.func 75), args := #[Operand.tmp 29, Operand.const (Value.int IntKind.i64 3)], argTypes := #[80, 3] }, type := 3, pos := "l92_draw.go:343", after := #[{ on := 10, ground := Ground.data }, { on := 7, ground := Ground.chain }], guard := none })) rfl (fun K hK => ?_) ?_
            ·
              go_simp
              refine (pick_any B 5 3 _ (by omega) (by omega) hR).mono ?_
              rintro e v36 ⟨i36, rfl, i036, i136, hRn, hon, _⟩
              obtain ⟨j3, rfl⟩ := Int.eq_ofNat_of_zero_le i036
              replace s1 := (hon.cell (w4.heap.size) j1 l1 n1).trans s1
              replace l1 := Nat.lt_of_lt_of_le l1 hon.size
              replace s2 := (hon.cell (w4.heap.size + 1) j2 l2 n2).trans s2
              replace l2 := Nat.lt_of_lt_of_le l2 hon.size
              replace KW := Only.keep hon KW (by omega)
              replace hR := hRn
              clear hRn hon
              go_simp
              refine hK.out _ _ ⟨s1, s2⟩ (fun hHeld => ?_)
              clear hK K
              try simp only [Act.put, List.setIfInBounds_toArray, List.set_cons_zero, List.set_cons_succ]
              refine wpAnyH_take (i := 12) (oi := ({ dst := some 31, op := Op.binOp BinOp.mul 3 (Operand.tmp 30) (Operand.const (Value.int IntKind.i64 6)) 3, type := 3, pos := "l92_draw.go:343", after := #[{ on := 11, ground := Ground.data }, { on := 14, ground := Ground.gcOnly Departure.lateStores }], guard := none })) (v := ?v37) rfl (by kernel_rfl) (by kernel_rfl) (by kernel_rfl) (fun _ _ _ h => h) (Or.inl ⟨by rfl, ?hy37⟩) hHeld ?rest37
              case hy37 => (intro w' hSw; (try dsimp only at hSw); go_split_ands; go_simp; try with_reducible rfl)
              try simp only [Act.put, List.setIfInBounds_toArray, List.set_cons_zero, List.set_cons_succ]
              refine wpAnyH_take (i := 13) (oi := ({ dst := some 2, op := Op.assign (Operand.tmp 23), type := 3, pos := "l92_draw.go:343", after := #[{ on := 4, ground := Ground.data }, { on := 11, ground := Ground.chain }, { on := 0, ground := Ground.phase }, { on := 1, ground := Ground.phase }, { on := 2, ground := Ground.phase }, { on := 3, ground := Ground.phase }, { on := 4, ground := Ground.phase }, { on := 5, ground := Ground.textOnly Departure.lateStores }, { on := 6, ground := Ground.textOnly Departure.lateStores }, { on := 7, ground := Ground.textOnly Departure.lateStoresUnsure }, { on := 8, ground := Ground.textOnly Departure.lateStores }, { on := 9, ground := Ground.textOnly Departure.lateStores }, { on := 10, ground := Ground.textOnly Departure.lateStores }, { on := 11, ground := Ground.textOnly Departure.lateStoresUnsure }, { on := 12, ground := Ground.textOnly Departure.lateStores }], guard := none })) (v := ?v38) rfl (by kernel_rfl) (by kernel_rfl) (by kernel_rfl) (fun _ _ _ h => h) (Or.inl ⟨by rfl, ?hy38⟩) hHeld ?rest38
              case hy38 => (intro w' hSw; (try dsimp only at hSw); go_split_ands; go_simp; try with_reducible rfl)
              try simp only [Act.put, List.setIfInBounds_toArray, List.set_cons_zero, List.set_cons_succ]
              refine wpAnyH_take (i := 14) (oi := ({ dst := some 3, op := Op.assign (Operand.tmp 28), type := 3, pos := "l92_draw.go:343", after := #[{ on := 9, ground := Ground.data }, { on := 13, ground := Ground.chain }, { on := 0, ground := Ground.phase }, { on := 1, ground := Ground.phase }, { on := 2, ground := Ground.phase }, { on := 3, ground := Ground.phase }, { on := 4, ground := Ground.phase }, { on := 5, ground := Ground.phase }, { on := 6, ground := Ground.phase }, { on := 7, ground := Ground.phase }, { on := 8, ground := Ground.phase }, { on := 9, ground := Ground.phase }, { on := 10, ground := Ground.textOnly Departure.lateStores }, { on := 11, ground := Ground.textOnly Departure.lateStoresUnsure }, { on := 12, ground := Ground.textOnly Departure.lateStores }, { on := 13, ground := Ground.phase }], guard := none })) (v := ?v39) rfl (by kernel_rfl) (by kernel_rfl) (by kernel_rfl) (fun _ _ _ h => h) (Or.inl ⟨by rfl, ?hy39⟩) hHeld ?rest39
              case hy39 => (intro w' hSw; (try dsimp only at hSw); go_split_ands; go_simp; try with_reducible rfl)
              try simp only [Act.put, List.setIfInBounds_toArray, List.set_cons_zero, List.set_cons_succ]
              refine wpAnyH_take (i := 15) (oi := ({ dst := some 4, op := Op.assign (Operand.tmp 31), type := 3, pos := "l92_draw.go:343", after := #[{ on := 12, ground := Ground.data }, { on := 14, ground := Ground.chain }, { on := 0, ground := Ground.phase }, { on := 1, ground := Ground.phase }, { on := 2, ground := Ground.phase }, { on := 3, ground := Ground.phase }, { on := 4, ground := Ground.phase }, { on := 5, ground := Ground.phase }, { on := 6, ground := Ground.phase }, { on := 7, ground := Ground.phase }, { on := 8, ground := Ground.phase }, { on := 9, ground := Ground.phase }, { on := 10, ground := Ground.phase }, { on := 11, ground := Ground.phase }, { on := 12, ground := Ground.phase }, { on := 13, ground := Ground.phase }, { on := 14, ground := Ground.phase }], guard := none })) (v := ?v40) rfl (by kernel_rfl) (by kernel_rfl) (by kernel_rfl) (fun _ _ _ h => h) (Or.inl ⟨by rfl, ?hy40⟩) hHeld ?rest40
              case hy40 => (intro w' hSw; (try dsimp only at hSw); go_split_ands; go_simp; try with_reducible rfl)
              try simp only [Act.put, List.setIfInBounds_toArray, List.set_cons_zero, List.set_cons_succ]
              refine wpAnyH_done (by kernel_rfl) ?_ _
              clear hR s1 s2 l1 l2 n1 n2
              go_wp2
              go_ret3
              exact ⟨⟨_, _, _, rfl⟩, KW⟩
            exact AllReadyH.nil
          exact AllReadyH.nil
        exact AllReadyH.nil
      exact AllReadyH.nil
    refine AllReadyH.cons (o := ({ dst := some 21, op := Op.call { callee := Callee.value (Operand.func 75), args := #[Operand.tmp 20, Operand.const (Value.int IntKind.i64 3)], argTypes := #[80, 3] }, type := 3, pos := "l92_draw.go:343", after := #[{ on := 1, ground := Ground.data }], guard := none })) rfl (fun K hK => ?_) ?_
    ·
      go_simp
      refine (pick_any B 3 3 _ (by omega) (by omega) hR).mono ?_
      rintro e v41 ⟨i41, rfl, i041, i141, hRn, hon, _⟩
      obtain ⟨j1, rfl⟩ := Int.eq_ofNat_of_zero_le i041
      replace KW := Only.keep hon KW (by omega)
      replace hR := hRn
      clear hRn hon
      go_simp
      refine hK.out _ _ trivial (fun hHeld => ?_)
      clear hK K
      try simp only [Act.put, List.setIfInBounds_toArray, List.set_cons_zero, List.set_cons_succ]
      refine wpAnyH_ready (rs := [0, 5, 7]) (by kernel_rfl) (by simp) ?_
      refine AllReadyH.cons (o := ({ dst := some 19, op := Op.buildSlice 27 3 #[(0, Operand.const (Value.int IntKind.i64 (-1000))), (1, Operand.const (Value.int IntKind.i64 (-999))), (2, Operand.const (Value.int IntKind.i64 10999))], type := 27, pos := "l92_draw.go:343", after := #[], guard := none })) rfl (fun K hK => ?_) ?_
      ·
        go_simp
        have hsz : v41.heap.size < (v41.alloc (.cells #[.int .i64 (-1000), .int .i64 (-999), .int .i64 10999] 3)).heap.size := by simp
        have hbe : v41.heap.size = v41.heap.size := by simp
        have F1 : ∀ x, x < 3 → (v41.alloc (.cells #[.int .i64 (-1000), .int .i64 (-999), .int .i64 10999] 3)).cell? ⟨v41.heap.size, x, none⟩ = some (.int .i64 ([-1000, -999, 10999].getD x 0)) := fun x hx => by rw [← hbe, World.cell?_alloc_new]; rcases (show x = 0 ∨ x = 1 ∨ x = 2 by omega) with rfl | rfl | rfl <;> rfl
        have l1 : v41.heap.size < (v41.alloc (.cells #[.int .i64 (-1000), .int .i64 (-999), .int .i64 10999] 3)).heap.size := by rw [← hbe]; exact hsz
        have n1 : v41.heap.size ≠ B := by rw [← hbe]; exact Nat.ne_of_gt hR.lt
        replace hR := hR.alloc (.cells #[.int .i64 (-1000), .int .i64 (-999), .int .i64 10999] 3)
        replace KW := KW.alloc (.cells #[.int .i64 (-1000), .int .i64 (-999), .int .i64 10999] 3)
        clear hsz hbe
        refine hK.out _ _ trivial (fun hHeld => ?_)
        clear hK K
        try simp only [Act.put, List.setIfInBounds_toArray, List.set_cons_zero, List.set_cons_succ]
        obtain ⟨u1, hu1⟩ : ∃ u, [-1000, -999, 10999].getD j1 0 = u := ⟨_, rfl⟩
        have s1 := F1 j1 (by omega)
        rw [hu1] at s1
        clear hu1 F1
        refine wpAnyH_mono (S2 := fun w' => w'.cell? ⟨v41.heap.size, j1, none⟩ = some (.int .i64 u1)) (fun _ h => trivial) _ _ _ _ ?_
        have hHeld : (fun w' => w'.cell? ⟨v41.heap.size, j1, none⟩ = some (.int .i64 u1)) (v41.alloc (.cells #[.int .i64 (-1000), .int .i64 (-999), .int .i64 10999] 3)) := s1
        refine wpAnyH_take (i := 3) (oi := ({ dst := some 22, op := Op.indexAddr 27 (Operand.tmp 19) (Operand.tmp 21), type := 0, pos := "l92_draw.go:343", after := #[{ on := 0, ground := Ground.data }, { on := 2, ground := Ground.data }], guard := none })) (v := ?v42) rfl (by kernel_rfl) (by kernel_rfl) (by kernel_rfl) (fun _ _ _ h => h) (Or.inl ⟨by rfl, ?hy42⟩) hHeld ?rest42
        case hy42 => (intro w' hSw; (try dsimp only at hSw); go_split_ands; go_simp; try with_reducible rfl)
        try simp only [Act.put, List.setIfInBounds_toArray, List.set_cons_zero, List.set_cons_succ]
        refine wpAnyH_take (i := 4) (oi := ({ dst := some 23, op := Op.load 3 (Operand.tmp 22), type := 3, pos := "l92_draw.go:343", after := #[{ on := 3, ground := Ground.data }], guard := none })) (v := ?v43) rfl (by kernel_rfl) (by kernel_rfl) (by kernel_rfl) (fun _ _ _ h => h) (Or.inl ⟨by rfl, ?hy43⟩) hHeld ?rest43
        case hy43 => (intro w' hSw; (try dsimp only at hSw); go_split_ands; go_simp; try with_reducible rfl)
        try simp only [Act.put, List.setIfInBounds_toArray, List.set_cons_zero, List.set_cons_succ]
        refine wpAnyH_ready (rs := [5, 7]) (by kernel_rfl) (by simp) ?_
        refine AllReadyH.cons (o := ({ dst := some 24, op := Op.buildSlice 27 4 #[(0, Operand.const (Value.int IntKind.i64 (-10000))), (1, Operand.const (Value.int IntKind.i64 9999)), (2, Operand.const (Value.int IntKind.i64 1)), (3, Operand.const (Value.int IntKind.i64 (-1)))], type := 27, pos := "l92_draw.go:343", after := #[{ on := 13, ground := Ground.gcOnly Departure.lateStores }], guard := none })) rfl (fun K hK => ?_) ?_
        ·
          go_simp
          have hsz : (v41.alloc (.cells #[.int .i64 (-1000), .int .i64 (-999), .int .i64 10999] 3)).heap.size < ((v41.alloc (.cells #[.int .i64 (-1000), .int .i64 (-999), .int .i64 10999] 3)).alloc (.cells #[.int .i64 (-10000), .int .i64 9999, .int .i64 1, .int .i64 (-1)] 3)).heap.size := by simp
          have hbe : (v41.alloc (.cells #[.int .i64 (-1000), .int .i64 (-999), .int .i64 10999] 3)).heap.size = v41.heap.size + 1 := by simp
          have F2 : ∀ x, x < 4 → ((v41.alloc (.cells #[.int .i64 (-1000), .int .i64 (-999), .int .i64 10999] 3)).alloc (.cells #[.int .i64 (-10000), .int .i64 9999, .int .i64 1, .int .i64 (-1)] 3)).cell? ⟨v41.heap.size + 1, x, none⟩ = some (.int .i64 ([-10000, 9999, 1, -1].getD x 0)) := fun x hx => by rw [← hbe, World.cell?_alloc_new]; rcases (show x = 0 ∨ x = 1 ∨ x = 2 ∨ x = 3 by omega) with rfl | rfl | rfl | rfl <;> rfl
          have l2 : v41.heap.size + 1 < ((v41.alloc (.cells #[.int .i64 (-1000), .int .i64 (-999), .int .i64 10999] 3)).alloc (.cells #[.int .i64 (-10000), .int .i64 9999, .int .i64 1, .int .i64 (-1)] 3)).heap.size := by rw [← hbe]; exact hsz
          have n2 : v41.heap.size + 1 ≠ B := by rw [← hbe]; exact Nat.ne_of_gt hR.lt
          replace s1 := ((Keep.refl (v41.alloc (.cells #[.int .i64 (-1000), .int .i64 (-999), .int .i64 10999] 3))).alloc (.cells #[.int .i64 (-10000), .int .i64 9999, .int .i64 1, .int .i64 (-1)] 3)).cell s1
          replace l1 := Nat.lt_trans l1 hsz
          replace hR := hR.alloc (.cells #[.int .i64 (-10000), .int .i64 9999, .int .i64 1, .int .i64 (-1)] 3)
          replace KW := KW.alloc (.cells #[.int .i64 (-10000), .int .i64 9999, .int .i64 1, .int .i64 (-1)] 3)
          clear hsz hbe
          refine hK.out _ _ s1 (fun hHeld => ?_)
          clear hK K
          try simp only [Act.put, List.setIfInBounds_toArray, List.set_cons_zero, List.set_cons_succ]
          refine wpAnyH_ready (rs := [7]) (by kernel_rfl) (by simp) ?_
          refine AllReadyH.cons (o := ({ dst := some 26, op := Op.call { callee := Callee.value (Operand.func 75), args := #[Operand.tmp 25, Operand.const (Value.int IntKind.i64 4)], argTypes := #[80, 3] }, type := 3, pos := "l92_draw.go:343", after := #[{ on := 6, ground := Ground.data }, { on := 2, ground := Ground.chain }], guard := none })) rfl (fun K hK => ?_) ?_
          ·
            go_simp
            refine (pick_any B 4 4 _ (by omega) (by omega) hR).mono ?_
            rintro e v44 ⟨i44, rfl, i044, i144, hRn, hon, _⟩
            obtain ⟨j2, rfl⟩ := Int.eq_ofNat_of_zero_le i044
            replace s1 := (hon.cell (v41.heap.size) j1 l1 n1).trans s1
            replace l1 := Nat.lt_of_lt_of_le l1 hon.size
            replace F2 := fun x hx => (hon.cell (v41.heap.size + 1) x l2 n2).trans (F2 x hx)
            replace l2 := Nat.lt_of_lt_of_le l2 hon.size
            replace KW := Only.keep hon KW (by omega)
            replace hR := hRn
            clear hRn hon
            go_simp
            refine hK.out _ _ s1 (fun hHeld => ?_)
            clear hK K
            try simp only [Act.put, List.setIfInBounds_toArray, List.set_cons_zero, List.set_cons_succ]
            obtain ⟨u2, hu2⟩ : ∃ u, [-10000, 9999, 1, -1].getD j2 0 = u := ⟨_, rfl⟩
            have s2 := F2 j2 (by omega)
            rw [hu2] at s2
            clear hu2 F2
            refine wpAnyH_mono (S2 := fun w' => w'.cell? ⟨v41.heap.size, j1, none⟩ = some (.int .i64 u1) ∧ w'.cell? ⟨v41.heap.size + 1, j2, none⟩ = some (.int .i64 u2)) (fun _ h => h.1) _ _ _ _ ?_
            have hHeld : (fun w' => w'.cell? ⟨v41.heap.size, j1, none⟩ = some (.int .i64 u1) ∧ w'.cell? ⟨v41.heap.size + 1, j2, none⟩ = some (.int .i64 u2)) v44 := ⟨s1, s2⟩
            refine wpAnyH_take (i := 8) (oi := ({ dst := some 27, op := Op.indexAddr 27 (Operand.tmp 24) (Operand.tmp 26), type := 0, pos := "l92_draw.go:343", after := #[{ on := 5, ground := Ground.data }, { on := 7, ground := Ground.data }, { on := 13, ground := Ground.gcOnly Departure.lateStores }], guard := none })) (v := ?v45) rfl (by kernel_rfl) (by kernel_rfl) (by kernel_rfl) (fun _ _ _ h => h) (Or.inl ⟨by rfl, ?hy45⟩) hHeld ?rest45
            case hy45 => (intro w' hSw; (try dsimp only at hSw); go_split_ands; go_simp; try with_reducible rfl)
            try simp only [Act.put, List.setIfInBounds_toArray, List.set_cons_zero, List.set_cons_succ]
            refine wpAnyH_take (i := 9) (oi := ({ dst := some 28, op := Op.load 3 (Operand.tmp 27), type := 3, pos := "l92_draw.go:343", after := #[{ on := 8, ground := Ground.data }, { on := 13, ground := Ground.gcOnly Departure.lateStores }], guard := none })) (v := ?v46) rfl (by kernel_rfl) (by kernel_rfl) (by kernel_rfl) (fun _ _ _ h => h) (Or.inl ⟨by rfl, ?hy46⟩) hHeld ?rest46
            case hy46 => (intro w' hSw; (try dsimp only at hSw); go_split_ands; go_simp; try with_reducible rfl)
            try simp only [Act.put, List.setIfInBounds_toArray, List.set_cons_zero, List.set_cons_succ]
            refine wpAnyH_ready (rs := [11]) (by kernel_rfl) (by simp) ?_
            refine AllReadyH.cons (o := ({ dst := some 30, op := Op.call { callee := Callee.value (Operand.func 75), args := #[Operand.tmp 29, Operand.const (Value.int IntKind.i64 3)], argTypes := #[80, 3] }, type := 3, pos := "l92_draw.go:343", after := #[{ on := 10, ground := Ground.data }, { on := 7, ground := Ground.chain }], guard := none })) rfl (fun K hK => ?_) ?_
            ·
              go_simp
              refine (pick_any B 5 3 _ (by omega) (by omega) hR).mono ?_
              rintro e v47 ⟨i47, rfl, i047, i147, hRn, hon, _⟩
              obtain ⟨j3, rfl⟩ := Int.eq_ofNat_of_zero_le i047
              replace s1 := (hon.cell (v41.heap.size) j1 l1 n1).trans s1
              replace l1 := Nat.lt_of_lt_of_le l1 hon.size
              replace s2 := (hon.cell (v41.heap.size + 1) j2 l2 n2).trans s2
              replace l2 := Nat.lt_of_lt_of_le l2 hon.size
              replace KW := Only.keep hon KW (by omega)
              replace hR := hRn
              clear hRn hon
              go_simp
              refine hK.out _ _ ⟨s1, s2⟩ (fun hHeld => ?_)
              clear hK K
              try simp only [Act.put, List.setIfInBounds_toArray, List.set_cons_zero, List.set_cons_succ]
              refine wpAnyH_take (i := 12) (oi := ({ dst := some 31, op := Op.binOp BinOp.mul 3 (Operand.tmp 30) (Operand.const (Value.int IntKind.i64 6)) 3, type := 3, pos := "l92_draw.go:343", after := #[{ on := 11, ground := Ground.data }, { on := 14, ground := Ground.gcOnly Departure.lateStores }], guard := none })) (v := ?v48) rfl (by kernel_rfl) (by kernel_rfl) (by kernel_rfl) (fun _ _ _ h => h) (Or.inl ⟨by rfl, ?hy48⟩) hHeld ?rest48
              case hy48 => (intro w' hSw; (try dsimp only at hSw); go_split_ands; go_simp; try with_reducible rfl)
              try simp only [Act.put, List.setIfInBounds_toArray, List.set_cons_zero, List.set_cons_succ]
              refine wpAnyH_take (i := 13) (oi := ({ dst := some 2, op := Op.assign (Operand.tmp 23), type := 3, pos := "l92_draw.go:343", after := #[{ on := 4, ground := Ground.data }, { on := 11, ground := Ground.chain }, { on := 0, ground := Ground.phase }, { on := 1, ground := Ground.phase }, { on := 2, ground := Ground.phase }, { on := 3, ground := Ground.phase }, { on := 4, ground := Ground.phase }, { on := 5, ground := Ground.textOnly Departure.lateStores }, { on := 6, ground := Ground.textOnly Departure.lateStores }, { on := 7, ground := Ground.textOnly Departure.lateStoresUnsure }, { on := 8, ground := Ground.textOnly Departure.lateStores }, { on := 9, ground := Ground.textOnly Departure.lateStores }, { on := 10, ground := Ground.textOnly Departure.lateStores }, { on := 11, ground := Ground.textOnly Departure.lateStoresUnsure }, { on := 12, ground := Ground.textOnly Departure.lateStores }], guard := none })) (v := ?v49) rfl (by kernel_rfl) (by kernel_rfl) (by kernel_rfl) (fun _ _ _ h => h) (Or.inl ⟨by rfl, ?hy49⟩) hHeld ?rest49
              case hy49 => (intro w' hSw; (try dsimp only at hSw); go_split_ands; go_simp; try with_reducible rfl)
              try simp only [Act.put, List.setIfInBounds_toArray, List.set_cons_zero, List.set_cons_succ]
              refine wpAnyH_take (i := 14) (oi := ({ dst := some 3, op := Op.assign (Operand.tmp 28), type := 3, pos := "l92_draw.go:343", after := #[{ on := 9, ground := Ground.data }, { on := 13, ground := Ground.chain }, { on := 0, ground := Ground.phase }, { on := 1, ground := Ground.phase }, { on := 2, ground := Ground.phase }, { on := 3, ground := Ground.phase }, { on := 4, ground := Ground.phase }, { on := 5, ground := Ground.phase }, { on := 6, ground := Ground.phase }, { on := 7, ground := Ground.phase }, { on := 8, ground := Ground.phase }, { on := 9, ground := Ground.phase }, { on := 10, ground := Ground.textOnly Departure.lateStores }, { on := 11, ground := Ground.textOnly Departure.lateStoresUnsure }, { on := 12, ground := Ground.textOnly Departure.lateStores }, { on := 13, ground := Ground.phase }], guard := none })) (v := ?v50) rfl (by kernel_rfl) (by kernel_rfl) (by kernel_rfl) (fun _ _ _ h => h) (Or.inl ⟨by rfl, ?hy50⟩) hHeld ?rest50
              case hy50 => (intro w' hSw; (try dsimp only at hSw); go_split_ands; go_simp; try with_reducible rfl)
              try simp only [Act.put, List.setIfInBounds_toArray, List.set_cons_zero, List.set_cons_succ]
              refine wpAnyH_take (i := 15) (oi := ({ dst := some 4, op := Op.assign (Operand.tmp 31), type := 3, pos := "l92_draw.go:343", after := #[{ on := 12, ground := Ground.data }, { on := 14, ground := Ground.chain }, { on := 0, ground := Ground.phase }, { on := 1, ground := Ground.phase }, { on := 2, ground := Ground.phase }, { on := 3, ground := Ground.phase }, { on := 4, ground := Ground.phase }, { on := 5, ground := Ground.phase }, { on := 6, ground := Ground.phase }, { on := 7, ground := Ground.phase }, { on := 8, ground := Ground.phase }, { on := 9, ground := Ground.phase }, { on := 10, ground := Ground.phase }, { on := 11, ground := Ground.phase }, { on := 12, ground := Ground.phase }, { on := 13, ground := Ground.phase }, { on := 14, ground := Ground.phase }], guard := none })) (v := ?v51) rfl (by kernel_rfl) (by kernel_rfl) (by kernel_rfl) (fun _ _ _ h => h) (Or.inl ⟨by rfl, ?hy51⟩) hHeld ?rest51
              case hy51 => (intro w' hSw; (try dsimp only at hSw); go_split_ands; go_simp; try with_reducible rfl)
              try simp only [Act.put, List.setIfInBounds_toArray, List.set_cons_zero, List.set_cons_succ]
              refine wpAnyH_done (by kernel_rfl) ?_ _
              clear hR s1 s2 l1 l2 n1 n2
              go_wp2
              go_ret3
              exact ⟨⟨_, _, _, rfl⟩, KW⟩
            exact AllReadyH.nil
          exact AllReadyH.nil
        refine AllReadyH.cons (o := ({ dst := some 26, op := Op.call { callee := Callee.value (Operand.func 75), args := #[Operand.tmp 25, Operand.const (Value.int IntKind.i64 4)], argTypes := #[80, 3] }, type := 3, pos := "l92_draw.go:343", after := #[{ on := 6, ground := Ground.data }, { on := 2, ground := Ground.chain }], guard := none })) rfl (fun K hK => ?_) ?_
        ·
          go_simp
          refine (pick_any B 4 4 _ (by omega) (by omega) hR).mono ?_
          rintro e v52 ⟨i52, rfl, i052, i152, hRn, hon, _⟩
          obtain ⟨j2, rfl⟩ := Int.eq_ofNat_of_zero_le i052
          replace s1 := (hon.cell (v41.heap.size) j1 l1 n1).trans s1
          replace l1 := Nat.lt_of_lt_of_le l1 hon.size
          replace KW := Only.keep hon KW (by omega)
          replace hR := hRn
          clear hRn hon
          go_simp
          refine hK.out _ _ s1 (fun hHeld => ?_)
          clear hK K
          try simp only [Act.put, List.setIfInBounds_toArray, List.set_cons_zero, List.set_cons_succ]
          refine wpAnyH_ready (rs := [5, 11]) (by kernel_rfl) (by simp) ?_
          refine AllReadyH.cons (o := ({ dst := some 24, op := Op.buildSlice 27 4 #[(0, Operand.const (Value.int IntKind.i64 (-10000))), (1, Operand.const (Value.int IntKind.i64 9999)), (2, Operand.const (Value.int IntKind.i64 1)), (3, Operand.const (Value.int IntKind.i64 (-1)))], type := 27, pos := "l92_draw.go:343", after := #[{ on := 13, ground := Ground.gcOnly Departure.lateStores }], guard := none })) rfl (fun K hK => ?_) ?_
          ·
            go_simp
            have hsz : v52.heap.size < (v52.alloc (.cells #[.int .i64 (-10000), .int .i64 9999, .int .i64 1, .int .i64 (-1)] 3)).heap.size := by simp
            have hbe : v52.heap.size = v52.heap.size := by simp
            have F2 : ∀ x, x < 4 → (v52.alloc (.cells #[.int .i64 (-10000), .int .i64 9999, .int .i64 1, .int .i64 (-1)] 3)).cell? ⟨v52.heap.size, x, none⟩ = some (.int .i64 ([-10000, 9999, 1, -1].getD x 0)) := fun x hx => by rw [← hbe, World.cell?_alloc_new]; rcases (show x = 0 ∨ x = 1 ∨ x = 2 ∨ x = 3 by omega) with rfl | rfl | rfl | rfl <;> rfl
            have l2 : v52.heap.size < (v52.alloc (.cells #[.int .i64 (-10000), .int .i64 9999, .int .i64 1, .int .i64 (-1)] 3)).heap.size := by rw [← hbe]; exact hsz
            have n2 : v52.heap.size ≠ B := by rw [← hbe]; exact Nat.ne_of_gt hR.lt
            replace s1 := ((Keep.refl v52).alloc (.cells #[.int .i64 (-10000), .int .i64 9999, .int .i64 1, .int .i64 (-1)] 3)).cell s1
            replace l1 := Nat.lt_trans l1 hsz
            replace hR := hR.alloc (.cells #[.int .i64 (-10000), .int .i64 9999, .int .i64 1, .int .i64 (-1)] 3)
            replace KW := KW.alloc (.cells #[.int .i64 (-10000), .int .i64 9999, .int .i64 1, .int .i64 (-1)] 3)
            clear hsz hbe
            refine hK.out _ _ s1 (fun hHeld => ?_)
            clear hK K
            try simp only [Act.put, List.setIfInBounds_toArray, List.set_cons_zero, List.set_cons_succ]
            obtain ⟨u2, hu2⟩ : ∃ u, [-10000, 9999, 1, -1].getD j2 0 = u := ⟨_, rfl⟩
            have s2 := F2 j2 (by omega)
            rw [hu2] at s2
            clear hu2 F2
            refine wpAnyH_mono (S2 := fun w' => w'.cell? ⟨v41.heap.size, j1, none⟩ = some (.int .i64 u1) ∧ w'.cell? ⟨v52.heap.size, j2, none⟩ = some (.int .i64 u2)) (fun _ h => h.1) _ _ _ _ ?_
            have hHeld : (fun w' => w'.cell? ⟨v41.heap.size, j1, none⟩ = some (.int .i64 u1) ∧ w'.cell? ⟨v52.heap.size, j2, none⟩ = some (.int .i64 u2)) (v52.alloc (.cells #[.int .i64 (-10000), .int .i64 9999, .int .i64 1, .int .i64 (-1)] 3)) := ⟨s1, s2⟩
            refine wpAnyH_take (i := 8) (oi := ({ dst := some 27, op := Op.indexAddr 27 (Operand.tmp 24) (Operand.tmp 26), type := 0, pos := "l92_draw.go:343", after := #[{ on := 5, ground := Ground.data }, { on := 7, ground := Ground.data }, { on := 13, ground := Ground.gcOnly Departure.lateStores }], guard := none })) (v := ?v53) rfl (by kernel_rfl) (by kernel_rfl) (by kernel_rfl) (fun _ _ _ h => h) (Or.inl ⟨by rfl, ?hy53⟩) hHeld ?rest53
            case hy53 => (intro w' hSw; (try dsimp only at hSw); go_split_ands; go_simp; try with_reducible rfl)
            try simp only [Act.put, List.setIfInBounds_toArray, List.set_cons_zero, List.set_cons_succ]
            refine wpAnyH_take (i := 9) (oi := ({ dst := some 28, op := Op.load 3 (Operand.tmp 27), type := 3, pos := "l92_draw.go:343", after := #[{ on := 8, ground := Ground.data }, { on := 13, ground := Ground.gcOnly Departure.lateStores }], guard := none })) (v := ?v54) rfl (by kernel_rfl) (by kernel_rfl) (by kernel_rfl) (fun _ _ _ h => h) (Or.inl ⟨by rfl, ?hy54⟩) hHeld ?rest54
            case hy54 => (intro w' hSw; (try dsimp only at hSw); go_split_ands; go_simp; try with_reducible rfl)
            try simp only [Act.put, List.setIfInBounds_toArray, List.set_cons_zero, List.set_cons_succ]
            refine wpAnyH_ready (rs := [11]) (by kernel_rfl) (by simp) ?_
            refine AllReadyH.cons (o := ({ dst := some 30, op := Op.call { callee := Callee.value (Operand.func 75), args := #[Operand.tmp 29, Operand.const (Value.int IntKind.i64 3)], argTypes := #[80, 3] }, type := 3, pos := "l92_draw.go:343", after := #[{ on := 10, ground := Ground.data }, { on := 7, ground := Ground.chain }], guard := none })) rfl (fun K hK => ?_) ?_
            ·
              go_simp
              refine (pick_any B 5 3 _ (by omega) (by omega) hR).mono ?_
              rintro e v55 ⟨i55, rfl, i055, i155, hRn, hon, _⟩
              obtain ⟨j3, rfl⟩ := Int.eq_ofNat_of_zero_le i055
              replace s1 := (hon.cell (v41.heap.size) j1 l1 n1).trans s1
              replace l1 := Nat.lt_of_lt_of_le l1 hon.size
              replace s2 := (hon.cell (v52.heap.size) j2 l2 n2).trans s2
              replace l2 := Nat.lt_of_lt_of_le l2 hon.size
              replace KW := Only.keep hon KW (by omega)
              replace hR := hRn
              clear hRn hon
              go_simp
              refine hK.out _ _ ⟨s1, s2⟩ (fun hHeld => ?_)
              clear hK K
              try simp only [Act.put, List.setIfInBounds_toArray, List.set_cons_zero, List.set_cons_succ]
              refine wpAnyH_take (i := 12) (oi := ({ dst := some 31, op := Op.binOp BinOp.mul 3 (Operand.tmp 30) (Operand.const (Value.int IntKind.i64 6)) 3, type := 3, pos := "l92_draw.go:343", after := #[{ on := 11, ground := Ground.data }, { on := 14, ground := Ground.gcOnly Departure.lateStores }], guard := none })) (v := ?v56) rfl (by kernel_rfl) (by kernel_rfl) (by kernel_rfl) (fun _ _ _ h => h) (Or.inl ⟨by rfl, ?hy56⟩) hHeld ?rest56
              case hy56 => (intro w' hSw; (try dsimp only at hSw); go_split_ands; go_simp; try with_reducible rfl)
              try simp only [Act.put, List.setIfInBounds_toArray, List.set_cons_zero, List.set_cons_succ]
              refine wpAnyH_take (i := 13) (oi := ({ dst := some 2, op := Op.assign (Operand.tmp 23), type := 3, pos := "l92_draw.go:343", after := #[{ on := 4, ground := Ground.data }, { on := 11, ground := Ground.chain }, { on := 0, ground := Ground.phase }, { on := 1, ground := Ground.phase }, { on := 2, ground := Ground.phase }, { on := 3, ground := Ground.phase }, { on := 4, ground := Ground.phase }, { on := 5, ground := Ground.textOnly Departure.lateStores }, { on := 6, ground := Ground.textOnly Departure.lateStores }, { on := 7, ground := Ground.textOnly Departure.lateStoresUnsure }, { on := 8, ground := Ground.textOnly Departure.lateStores }, { on := 9, ground := Ground.textOnly Departure.lateStores }, { on := 10, ground := Ground.textOnly Departure.lateStores }, { on := 11, ground := Ground.textOnly Departure.lateStoresUnsure }, { on := 12, ground := Ground.textOnly Departure.lateStores }], guard := none })) (v := ?v57) rfl (by kernel_rfl) (by kernel_rfl) (by kernel_rfl) (fun _ _ _ h => h) (Or.inl ⟨by rfl, ?hy57⟩) hHeld ?rest57
              case hy57 => (intro w' hSw; (try dsimp only at hSw); go_split_ands; go_simp; try with_reducible rfl)
              try simp only [Act.put, List.setIfInBounds_toArray, List.set_cons_zero, List.set_cons_succ]
              refine wpAnyH_take (i := 14) (oi := ({ dst := some 3, op := Op.assign (Operand.tmp 28), type := 3, pos := "l92_draw.go:343", after := #[{ on := 9, ground := Ground.data }, { on := 13, ground := Ground.chain }, { on := 0, ground := Ground.phase }, { on := 1, ground := Ground.phase }, { on := 2, ground := Ground.phase }, { on := 3, ground := Ground.phase }, { on := 4, ground := Ground.phase }, { on := 5, ground := Ground.phase }, { on := 6, ground := Ground.phase }, { on := 7, ground := Ground.phase }, { on := 8, ground := Ground.phase }, { on := 9, ground := Ground.phase }, { on := 10, ground := Ground.textOnly Departure.lateStores }, { on := 11, ground := Ground.textOnly Departure.lateStoresUnsure }, { on := 12, ground := Ground.textOnly Departure.lateStores }, { on := 13, ground := Ground.phase }], guard := none })) (v := ?v58) rfl (by kernel_rfl) (by kernel_rfl) (by kernel_rfl) (fun _ _ _ h => h) (Or.inl ⟨by rfl, ?hy58⟩) hHeld ?rest58
              case hy58 => (intro w' hSw; (try dsimp only at hSw); go_split_ands; go_simp; try with_reducible rfl)
              try simp only [Act.put, List.setIfInBounds_toArray, List.set_cons_zero, List.set_cons_succ]
              refine wpAnyH_take (i := 15) (oi := ({ dst := some 4, op := Op.assign (Operand.tmp 31), type := 3, pos := "l92_draw.go:343", after := #[{ on := 12, ground := Ground.data }, { on := 14, ground := Ground.chain }, { on := 0, ground := Ground.phase }, { on := 1, ground := Ground.phase }, { on := 2, ground := Ground.phase }, { on := 3, ground := Ground.phase }, { on := 4, ground := Ground.phase }, { on := 5, ground := Ground.phase }, { on := 6, ground := Ground.phase }, { on := 7, ground := Ground.phase }, { on := 8, ground := Ground.phase }, { on := 9, ground := Ground.phase }, { on := 10, ground := Ground.phase }, { on := 11, ground := Ground.phase }, { on := 12, ground := Ground.phase }, { on := 13, ground := Ground.phase }, { on := 14, ground := Ground.phase }], guard := none })) (v := ?v59) rfl (by kernel_rfl) (by kernel_rfl) (by kernel_rfl) (fun _ _ _ h => h) (Or.inl ⟨by rfl, ?hy59⟩) hHeld ?rest59
              case hy59 => (intro w' hSw; (try dsimp only at hSw); go_split_ands; go_simp; try with_reducible rfl)
              try simp only [Act.put, List.setIfInBounds_toArray, List.set_cons_zero, List.set_cons_succ]
              refine wpAnyH_done (by kernel_rfl) ?_ _
              clear hR s1 s2 l1 l2 n1 n2
              go_wp2
              go_ret3
              exact ⟨⟨_, _, _, rfl⟩, KW⟩
            exact AllReadyH.nil
          refine AllReadyH.cons (o := ({ dst := some 30, op := Op.call { callee := Callee.value (Operand.func 75), args := #[Operand.tmp 29, Operand.const (Value.int IntKind.i64 3)], argTypes := #[80, 3] }, type := 3, pos := "l92_draw.go:343", after := #[{ on := 10, ground := Ground.data }, { on := 7, ground := Ground.chain }], guard := none })) rfl (fun K hK => ?_) ?_
          ·
            go_simp
            refine (pick_any B 5 3 _ (by omega) (by omega) hR).mono ?_
            rintro e v60 ⟨i60, rfl, i060, i160, hRn, hon, _⟩
            obtain ⟨j3, rfl⟩ := Int.eq_ofNat_of_zero_le i060
            replace s1 := (hon.cell (v41.heap.size) j1 l1 n1).trans s1
            replace l1 := Nat.lt_of_lt_of_le l1 hon.size
            replace KW := Only.keep hon KW (by omega)
            replace hR := hRn
            clear hRn hon
            go_simp
            refine hK.out _ _ s1 (fun hHeld => ?_)
            clear hK K
            try simp only [Act.put, List.setIfInBounds_toArray, List.set_cons_zero, List.set_cons_succ]
            refine wpAnyH_take (i := 12) (oi := ({ dst := some 31, op := Op.binOp BinOp.mul 3 (Operand.tmp 30) (Operand.const (Value.int IntKind.i64 6)) 3, type := 3, pos := "l92_draw.go:343", after := #[{ on := 11, ground := Ground.data }, { on := 14, ground := Ground.gcOnly Departure.lateStores }], guard := none })) (v := ?v61) rfl (by kernel_rfl) (by kernel_rfl) (by kernel_rfl) (fun _ _ _ h => h) (Or.inl ⟨by rfl, ?hy61⟩) hHeld ?rest61
            case hy61 => (intro w' hSw; (try dsimp only at hSw); go_split_ands; go_simp; try with_reducible rfl)
            try simp only [Act.put, List.setIfInBounds_toArray, List.set_cons_zero, List.set_cons_succ]
            refine wpAnyH_take (i := 13) (oi := ({ dst := some 2, op := Op.assign (Operand.tmp 23), type := 3, pos := "l92_draw.go:343", after := #[{ on := 4, ground := Ground.data }, { on := 11, ground := Ground.chain }, { on := 0, ground := Ground.phase }, { on := 1, ground := Ground.phase }, { on := 2, ground := Ground.phase }, { on := 3, ground := Ground.phase }, { on := 4, ground := Ground.phase }, { on := 5, ground := Ground.textOnly Departure.lateStores }, { on := 6, ground := Ground.textOnly Departure.lateStores }, { on := 7, ground := Ground.textOnly Departure.lateStoresUnsure }, { on := 8, ground := Ground.textOnly Departure.lateStores }, { on := 9, ground := Ground.textOnly Departure.lateStores }, { on := 10, ground := Ground.textOnly Departure.lateStores }, { on := 11, ground := Ground.textOnly Departure.lateStoresUnsure }, { on := 12, ground := Ground.textOnly Departure.lateStores }], guard := none })) (v := ?v62) rfl (by kernel_rfl) (by kernel_rfl) (by kernel_rfl) (fun _ _ _ h => h) (Or.inl ⟨by rfl, ?hy62⟩) hHeld ?rest62
            case hy62 => (intro w' hSw; (try dsimp only at hSw); go_split_ands; go_simp; try with_reducible rfl)
            try simp only [Act.put, List.setIfInBounds_toArray, List.set_cons_zero, List.set_cons_succ]
            refine wpAnyH_ready (rs := [5]) (by kernel_rfl) (by simp) ?_
            refine AllReadyH.cons (o := ({ dst := some 24, op := Op.buildSlice 27 4 #[(0, Operand.const (Value.int IntKind.i64 (-10000))), (1, Operand.const (Value.int IntKind.i64 9999)), (2, Operand.const (Value.int IntKind.i64 1)), (3, Operand.const (Value.int IntKind.i64 (-1)))], type := 27, pos := "l92_draw.go:343", after := #[{ on := 13, ground := Ground.gcOnly Departure.lateStores }], guard := none })) rfl (fun K hK => ?_) ?_
            ·
              go_simp
              have hsz : v60.heap.size < (v60.alloc (.cells #[.int .i64 (-10000), .int .i64 9999, .int .i64 1, .int .i64 (-1)] 3)).heap.size := by simp
              have hbe : v60.heap.size = v60.heap.size := by simp
              have F2 : ∀ x, x < 4 → (v60.alloc (.cells #[.int .i64 (-10000), .int .i64 9999, .int .i64 1, .int .i64 (-1)] 3)).cell? ⟨v60.heap.size, x, none⟩ = some (.int .i64 ([-10000, 9999, 1, -1].getD x 0)) := fun x hx => by rw [← hbe, World.cell?_alloc_new]; rcases (show x = 0 ∨ x = 1 ∨ x = 2 ∨ x = 3 by omega) with rfl | rfl | rfl | rfl <;> rfl
              have l2 : v60.heap.size < (v60.alloc (.cells #[.int .i64 (-10000), .int .i64 9999, .int .i64 1, .int .i64 (-1)] 3)).heap.size := by rw [← hbe]; exact hsz
              have n2 : v60.heap.size ≠ B := by rw [← hbe]; exact Nat.ne_of_gt hR.lt
              replace s1 := ((Keep.refl v60).alloc (.cells #[.int .i64 (-10000), .int .i64 9999, .int .i64 1, .int .i64 (-1)] 3)).cell s1
              replace l1 := Nat.lt_trans l1 hsz
              replace hR := hR.alloc (.cells #[.int .i64 (-10000), .int .i64 9999, .int .i64 1, .int .i64 (-1)] 3)
              replace KW := KW.alloc (.cells #[.int .i64 (-10000), .int .i64 9999, .int .i64 1, .int .i64 (-1)] 3)
              clear hsz hbe
              refine hK.out _ _ s1 (fun hHeld => ?_)
              clear hK K
              try simp only [Act.put, List.setIfInBounds_toArray, List.set_cons_zero, List.set_cons_succ]
              obtain ⟨u2, hu2⟩ : ∃ u, [-10000, 9999, 1, -1].getD j2 0 = u := ⟨_, rfl⟩
              have s2 := F2 j2 (by omega)
              rw [hu2] at s2
              clear hu2 F2
              refine wpAnyH_mono (S2 := fun w' => w'.cell? ⟨v41.heap.size, j1, none⟩ = some (.int .i64 u1) ∧ w'.cell? ⟨v60.heap.size, j2, none⟩ = some (.int .i64 u2)) (fun _ h => h.1) _ _ _ _ ?_
              have hHeld : (fun w' => w'.cell? ⟨v41.heap.size, j1, none⟩ = some (.int .i64 u1) ∧ w'.cell? ⟨v60.heap.size, j2, none⟩ = some (.int .i64 u2)) (v60.alloc (.cells #[.int .i64 (-10000), .int .i64 9999, .int .i64 1, .int .i64 (-1)] 3)) := ⟨s1, s2⟩
              refine wpAnyH_take (i := 8) (oi := ({ dst := some 27, op := Op.indexAddr 27 (Operand.tmp 24) (Operand.tmp 26), type := 0, pos := "l92_draw.go:343", after := #[{ on := 5, ground := Ground.data }, { on := 7, ground := Ground.data }, { on := 13, ground := Ground.gcOnly Departure.lateStores }], guard := none })) (v := ?v63) rfl (by kernel_rfl) (by kernel_rfl) (by kernel_rfl) (fun _ _ _ h => h) (Or.inl ⟨by rfl, ?hy63⟩) hHeld ?rest63
              case hy63 => (intro w' hSw; (try dsimp only at hSw); go_split_ands; go_simp; try with_reducible rfl)
              try simp only [Act.put, List.setIfInBounds_toArray, List.set_cons_zero, List.set_cons_succ]
              refine wpAnyH_take (i := 9) (oi := ({ dst := some 28, op := Op.load 3 (Operand.tmp 27), type := 3, pos := "l92_draw.go:343", after := #[{ on := 8, ground := Ground.data }, { on := 13, ground := Ground.gcOnly Departure.lateStores }], guard := none })) (v := ?v64) rfl (by kernel_rfl) (by kernel_rfl) (by kernel_rfl) (fun _ _ _ h => h) (Or.inl ⟨by rfl, ?hy64⟩) hHeld ?rest64
              case hy64 => (intro w' hSw; (try dsimp only at hSw); go_split_ands; go_simp; try with_reducible rfl)
              try simp only [Act.put, List.setIfInBounds_toArray, List.set_cons_zero, List.set_cons_succ]
              refine wpAnyH_take (i := 14) (oi := ({ dst := some 3, op := Op.assign (Operand.tmp 28), type := 3, pos := "l92_draw.go:343", after := #[{ on := 9, ground := Ground.data }, { on := 13, ground := Ground.chain }, { on := 0, ground := Ground.phase }, { on := 1, ground := Ground.phase }, { on := 2, ground := Ground.phase }, { on := 3, ground := Ground.phase }, { on := 4, ground := Ground.phase }, { on := 5, ground := Ground.phase }, { on := 6, ground := Ground.phase }, { on := 7, ground := Ground.phase }, { on := 8, ground := Ground.phase }, { on := 9, ground := Ground.phase }, { on := 10, ground := Ground.textOnly Departure.lateStores }, { on := 11, ground := Ground.textOnly Departure.lateStoresUnsure }, { on := 12, ground := Ground.textOnly Departure.lateStores }, { on := 13, ground := Ground.phase }], guard := none })) (v := ?v65) rfl (by kernel_rfl) (by kernel_rfl) (by kernel_rfl) (fun _ _ _ h => h) (Or.inl ⟨by rfl, ?hy65⟩) hHeld ?rest65
              case hy65 => (intro w' hSw; (try dsimp only at hSw); go_split_ands; go_simp; try with_reducible rfl)
              try simp only [Act.put, List.setIfInBounds_toArray, List.set_cons_zero, List.set_cons_succ]
              refine wpAnyH_take (i := 15) (oi := ({ dst := some 4, op := Op.assign (Operand.tmp 31), type := 3, pos := "l92_draw.go:343", after := #[{ on := 12, ground := Ground.data }, { on := 14, ground := Ground.chain }, { on := 0, ground := Ground.phase }, { on := 1, ground := Ground.phase }, { on := 2, ground := Ground.phase }, { on := 3, ground := Ground.phase }, { on := 4, ground := Ground.phase }, { on := 5, ground := Ground.phase }, { on := 6, ground := Ground.phase }, { on := 7, ground := Ground.phase }, { on := 8, ground := Ground.phase }, { on := 9, ground := Ground.phase }, { on := 10, ground := Ground.phase }, { on := 11, ground := Ground.phase }, { on := 12, ground := Ground.phase }, { on := 13, ground := Ground.phase }, { on := 14, ground := Ground.phase }], guard := none })) (v := ?v66) rfl (by kernel_rfl) (by kernel_rfl) (by kernel_rfl) (fun _ _ _ h => h) (Or.inl ⟨by rfl, ?hy66⟩) hHeld ?rest66
              case hy66 => (intro w' hSw; (try dsimp only at hSw); go_split_ands; go_simp; try with_reducible rfl)
              try simp only [Act.put, List.setIfInBounds_toArray, List.set_cons_zero, List.set_cons_succ]
              refine wpAnyH_done (by kernel_rfl) ?_ _
              clear hR s1 s2 l1 l2 n1 n2
              go_wp2
              go_ret3
              exact ⟨⟨_, _, _, rfl⟩, KW⟩
            exact AllReadyH.nil
          exact AllReadyH.nil
        exact AllReadyH.nil
      refine AllReadyH.cons (o := ({ dst := some 24, op := Op.buildSlice 27 4 #[(0, Operand.const (Value.int IntKind.i64 (-10000))), (1, Operand.const (Value.int IntKind.i64 9999)), (2, Operand.const (Value.int IntKind.i64 1)), (3, Operand.const (Value.int IntKind.i64 (-1)))], type := 27, pos := "l92_draw.go:343", after := #[{ on := 13, ground := Ground.gcOnly Departure.lateStores }], guard := none })) rfl (fun K hK => ?_) ?_
      ·
        go_simp
        have hsz : v41.heap.size < (v41.alloc (.cells #[.int .i64 (-10000), .int .i64 9999, .int .i64 1, .int .i64 (-1)] 3)).heap.size := by simp
        have hbe : v41.heap.size = v41.heap.size := by simp
        have F2 : ∀ x, x < 4 → (v41.alloc (.cells #[.int .i64 (-10000), .int .i64 9999, .int .i64 1, .int .i64 (-1)] 3)).cell? ⟨v41.heap.size, x, none⟩ = some (.int .i64 ([-10000, 9999, 1, -1].getD x 0)) := fun x hx => by rw [← hbe, World.cell?_alloc_new]; rcases (show x = 0 ∨ x = 1 ∨ x = 2 ∨ x = 3 by omega) with rfl | rfl | rfl | rfl <;> rfl
        have l2 : v41.heap.size < (v41.alloc (.cells #[.int .i64 (-10000), .int .i64 9999, .int .i64 1, .int .i64 (-1)] 3)).heap.size := by rw [← hbe]; exact hsz
        have n2 : v41.heap.size ≠ B := by rw [← hbe]; exact Nat.ne_of_gt hR.lt
        replace hR := hR.alloc (.cells #[.int .i64 (-10000), .int .i64 9999, .int .i64 1, .int .i64 (-1)] 3)
        replace KW := KW.alloc (.cells #[.int .i64 (-10000), .int .i64 9999, .int .i64 1, .int .i64 (-1)] 3)
        clear hsz hbe
        refine hK.out _ _ trivial (fun hHeld => ?_)
        clear hK K
        try simp only [Act.put, List.setIfInBounds_toArray, List.set_cons_zero, List.set_cons_succ]
        refine wpAnyH_ready (rs := [0, 7]) (by kernel_rfl) (by simp) ?_
        refine AllReadyH.cons (o := ({ dst := some 19, op := Op.buildSlice 27 3 #[(0, Operand.const (Value.int IntKind.i64 (-1000))), (1, Operand.const (Value.int IntKind.i64 (-999))), (2, Operand.const (Value.int IntKind.i64 10999))], type := 27, pos := "l92_draw.go:343", after := #[], guard := none })) rfl (fun K hK => ?_) ?_
        ·
          go_simp
          have hsz : (v41.alloc (.cells #[.int .i64 (-10000), .int .i64 9999, .int .i64 1, .int .i64 (-1)] 3)).heap.size < ((v41.alloc (.cells #[.int .i64 (-10000), .int .i64 9999, .int .i64 1, .int .i64 (-1)] 3)).alloc (.cells #[.int .i64 (-1000), .int .i64 (-999), .int .i64 10999] 3)).heap.size := by simp
          have hbe : (v41.alloc (.cells #[.int .i64 (-10000), .int .i64 9999, .int .i64 1, .int .i64 (-1)] 3)).heap.size = v41.heap.size + 1 := by simp
          have F1 : ∀ x, x < 3 → ((v41.alloc (.cells #[.int .i64 (-10000), .int .i64 9999, .int .i64 1, .int .i64 (-1)] 3)).alloc (.cells #[.int .i64 (-1000), .int .i64 (-999), .int .i64 10999] 3)).cell? ⟨v41.heap.size + 1, x, none⟩ = some (.int .i64 ([-1000, -999, 10999].getD x 0)) := fun x hx => by rw [← hbe, World.cell?_alloc_new]; rcases (show x = 0 ∨ x = 1 ∨ x = 2 by omega) with rfl | rfl | rfl <;> rfl
          have l1 : v41.heap.size + 1 < ((v41.alloc (.cells #[.int .i64 (-10000), .int .i64 9999, .int .i64 1, .int .i64 (-1)] 3)).alloc (.cells #[.int .i64 (-1000), .int .i64 (-999), .int .i64 10999] 3)).heap.size := by rw [← hbe]; exact hsz
          have n1 : v41.heap.size + 1 ≠ B := by rw [← hbe]; exact Nat.ne_of_gt hR.lt
          replace F2 := fun x hx => ((Keep.refl (v41.alloc (.cells #[.int .i64 (-10000), .int .i64 9999, .int .i64 1, .int .i64 (-1)] 3))).alloc (.cells #[.int .i64 (-1000), .int .i64 (-999), .int .i64 10999] 3)).cell (F2 x hx)
          replace l2 := Nat.lt_trans l2 hsz
          replace hR := hR.alloc (.cells #[.int .i64 (-1000), .int .i64 (-999), .int .i64 10999] 3)
          replace KW := KW.alloc (.cells #[.int .i64 (-1000), .int .i64 (-999), .int .i64 10999] 3)
          clear hsz hbe
          refine hK.out _ _ trivial (fun hHeld => ?_)
          clear hK K
          try simp only [Act.put, List.setIfInBounds_toArray, List.set_cons_zero, List.set_cons_succ]
          obtain ⟨u1, hu1⟩ : ∃ u, [-1000, -999, 10999].getD j1 0 = u := ⟨_, rfl⟩
          have s1 := F1 j1 (by omega)
          rw [hu1] at s1
          clear hu1 F1
          refine wpAnyH_mono (S2 := fun w' => w'.cell? ⟨v41.heap.size + 1, j1, none⟩ = some (.int .i64 u1)) (fun _ h => trivial) _ _ _ _ ?_
          have hHeld : (fun w' => w'.cell? ⟨v41.heap.size + 1, j1, none⟩ = some (.int .i64 u1)) ((v41.alloc (.cells #[.int .i64 (-10000), .int .i64 9999, .int .i64 1, .int .i64 (-1)] 3)).alloc (.cells #[.int .i64 (-1000), .int .i64 (-999), .int .i64 10999] 3)) := s1
          refine wpAnyH_take (i := 3) (oi := ({ dst := some 22, op := Op.indexAddr 27 (Operand.tmp 19) (Operand.tmp 21), type := 0, pos := "l92_draw.go:343", after := #[{ on := 0, ground := Ground.data }, { on := 2, ground := Ground.data }], guard := none })) (v := ?v67) rfl (by kernel_rfl) (by kernel_rfl) (by kernel_rfl) (fun _ _ _ h => h) (Or.inl ⟨by rfl, ?hy67⟩) hHeld ?rest67
          case hy67 => (intro w' hSw; (try dsimp only at hSw); go_split_ands; go_simp; try with_reducible rfl)
          try simp only [Act.put, List.setIfInBounds_toArray, List.set_cons_zero, List.set_cons_succ]
          refine wpAnyH_take (i := 4) (oi := ({ dst := some 23, op := Op.load 3 (Operand.tmp 22), type := 3, pos := "l92_draw.go:343", after := #[{ on := 3, ground := Ground.data }], guard := none })) (v := ?v68) rfl (by kernel_rfl) (by kernel_rfl) (by kernel_rfl) (fun _ _ _ h => h) (Or.inl ⟨by rfl, ?hy68⟩) hHeld ?rest68
          case hy68 => (intro w' hSw; (try dsimp only at hSw); go_split_ands; go_simp; try with_reducible rfl)
          try simp only [Act.put, List.setIfInBounds_toArray, List.set_cons_zero, List.set_cons_succ]
          refine wpAnyH_ready (rs := [7]) (by kernel_rfl) (by simp) ?_
          refine AllReadyH.cons (o := ({ dst := some 26, op := Op.call { callee := Callee.value (Operand.func 75), args := #[Operand.tmp 25, Operand.const (Value.int IntKind.i64 4)], argTypes := #[80, 3] }, type := 3, pos := "l92_draw.go:343", after := #[{ on := 6, ground := Ground.data }, { on := 2, ground := Ground.chain }], guard := none })) rfl (fun K hK => ?_) ?_
          ·
            go_simp
            refine (pick_any B 4 4 _ (by omega) (by omega) hR).mono ?_
            rintro e v69 ⟨i69, rfl, i069, i169, hRn, hon, _⟩
            obtain ⟨j2, rfl⟩ := Int.eq_ofNat_of_zero_le i069
            replace s1 := (hon.cell (v41.heap.size + 1) j1 l1 n1).trans s1
            replace l1 := Nat.lt_of_lt_of_le l1 hon.size
            replace F2 := fun x hx => (hon.cell (v41.heap.size) x l2 n2).trans (F2 x hx)
            replace l2 := Nat.lt_of_lt_of_le l2 hon.size
            replace KW := Only.keep hon KW (by omega)
            replace hR := hRn
            clear hRn hon
            go_simp
            refine hK.out _ _ s1 (fun hHeld => ?_)
            clear hK K
            try simp only [Act.put, List.setIfInBounds_toArray, List.set_cons_zero, List.set_cons_succ]
            obtain ⟨u2, hu2⟩ : ∃ u, [-10000, 9999, 1, -1].getD j2 0 = u := ⟨_, rfl⟩
            have s2 := F2 j2 (by omega)
            rw [hu2] at s2
            clear hu2 F2
            refine wpAnyH_mono (S2 := fun w' => w'.cell? ⟨v41.heap.size + 1, j1, none⟩ = some (.int .i64 u1) ∧ w'.cell? ⟨v41.heap.size, j2, none⟩ = some (.int .i64 u2)) (fun _ h => h.1) _ _ _ _ ?_
            have hHeld : (fun w' => w'.cell? ⟨v41.heap.size + 1, j1, none⟩ = some (.int .i64 u1) ∧ w'.cell? ⟨v41.heap.size, j2, none⟩ = some (.int .i64 u2)) v69 := ⟨s1, s2⟩
            refine wpAnyH_take (i := 8) (oi := ({ dst := some 27, op := Op.indexAddr 27 (Operand.tmp 24) (Operand.tmp 26), type := 0, pos := "l92_draw.go:343", after := #[{ on := 5, ground := Ground.data }, { on := 7, ground := Ground.data }, { on := 13, ground := Ground.gcOnly Departure.lateStores }], guard := none })) (v := ?v70) rfl (by kernel_rfl) (by kernel_rfl) (by kernel_rfl) (fun _ _ _ h => h) (Or.inl ⟨by rfl, ?hy70⟩) hHeld ?rest70
            case hy70 => (intro w' hSw; (try dsimp only at hSw); go_split_ands; go_simp; try with_reducible rfl)
            try simp only [Act.put, List.setIfInBounds_toArray, List.set_cons_zero, List.set_cons_succ]
            refine wpAnyH_take (i := 9) (oi := ({ dst := some 28, op := Op.load 3 (Operand.tmp 27), type := 3, pos := "l92_draw.go:343", after := #[{ on := 8, ground := Ground.data }, { on := 13, ground := Ground.gcOnly Departure.lateStores }], guard := none })) (v := ?v71) rfl (by kernel_rfl) (by kernel_rfl) (by kernel_rfl) (fun _ _ _ h => h) (Or.inl ⟨by rfl, ?hy71⟩) hHeld ?rest71
            case hy71 => (intro w' hSw; (try dsimp only at hSw); go_split_ands; go_simp; try with_reducible rfl)
            try simp only [Act.put, List.setIfInBounds_toArray, List.set_cons_zero, List.set_cons_succ]
            refine wpAnyH_ready (rs := [11]) (by kernel_rfl) (by simp) ?_
            refine AllReadyH.cons (o := ({ dst := some 30, op := Op.call { callee := Callee.value (Operand.func 75), args := #[Operand.tmp 29, Operand.const (Value.int IntKind.i64 3)], argTypes := #[80, 3] }, type := 3, pos := "l92_draw.go:343", after := #[{ on := 10, ground := Ground.data }, { on := 7, ground := Ground.chain }], guard := none })) rfl (fun K hK => ?_) ?_
            ·
              go_simp
              refine (pick_any B 5 3 _ (by omega) (by omega) hR).mono ?_
              rintro e v72 ⟨i72, rfl, i072, i172, hRn, hon, _⟩
              obtain ⟨j3, rfl⟩ := Int.eq_ofNat_of_zero_le i072
              replace s1 := (hon.cell (v41.heap.size + 1) j1 l1 n1).trans s1
              replace l1 := Nat.lt_of_lt_of_le l1 hon.size
              replace s2 := (hon.cell (v41.heap.size) j2 l2 n2).trans s2
              replace l2 := Nat.lt_of_lt_of_le l2 hon.size
              replace KW := Only.keep hon KW (by omega)
              replace hR := hRn
              clear hRn hon
              go_simp
              refine hK.out _ _ ⟨s1, s2⟩ (fun hHeld => ?_)
              clear hK K
              try simp only [Act.put, List.setIfInBounds_toArray, List.set_cons_zero, List.set_cons_succ]
              refine wpAnyH_take (i := 12) (oi := ({ dst := some 31, op := Op.binOp BinOp.mul 3 (Operand.tmp 30) (Operand.const (Value.int IntKind.i64 6)) 3, type := 3, pos := "l92_draw.go:343", after := #[{ on := 11, ground := Ground.data }, { on := 14, ground := Ground.gcOnly Departure.lateStores }], guard := none })) (v := ?v73) rfl (by kernel_rfl) (by kernel_rfl) (by kernel_rfl) (fun _ _ _ h => h) (Or.inl ⟨by rfl, ?hy73⟩) hHeld ?rest73
              case hy73 => (intro w' hSw; (try dsimp only at hSw); go_split_ands; go_simp; try with_reducible rfl)
              try simp only [Act.put, List.setIfInBounds_toArray, List.set_cons_zero, List.set_cons_succ]
              refine wpAnyH_take (i := 13) (oi := ({ dst := some 2, op := Op.assign (Operand.tmp 23), type := 3, pos := "l92_draw.go:343", after := #[{ on := 4, ground := Ground.data }, { on := 11, ground := Ground.chain }, { on := 0, ground := Ground.phase }, { on := 1, ground := Ground.phase }, { on := 2, ground := Ground.phase }, { on := 3, ground := Ground.phase }, { on := 4, ground := Ground.phase }, { on := 5, ground := Ground.textOnly Departure.lateStores }, { on := 6, ground := Ground.textOnly Departure.lateStores }, { on := 7, ground := Ground.textOnly Departure.lateStoresUnsure }, { on := 8, ground := Ground.textOnly Departure.lateStores }, { on := 9, ground := Ground.textOnly Departure.lateStores }, { on := 10, ground := Ground.textOnly Departure.lateStores }, { on := 11, ground := Ground.textOnly Departure.lateStoresUnsure }, { on := 12, ground := Ground.textOnly Departure.lateStores }], guard := none })) (v := ?v74) rfl (by kernel_rfl) (by kernel_rfl) (by kernel_rfl) (fun _ _ _ h => h) (Or.inl ⟨by rfl, ?hy74⟩) hHeld ?rest74
              case hy74 => (intro w' hSw; (try dsimp only at hSw); go_split_ands; go_simp; try with_reducible rfl)
              try simp only [Act.put, List.setIfInBounds_toArray, List.set_cons_zero, List.set_cons_succ]
              refine wpAnyH_take (i := 14) (oi := ({ dst := some 3, op := Op.assign (Operand.tmp 28), type := 3, pos := "l92_draw.go:343", after := #[{ on := 9, ground := Ground.data }, { on := 13, ground := Ground.chain }, { on := 0, ground := Ground.phase }, { on := 1, ground := Ground.phase }, { on := 2, ground := Ground.phase }, { on := 3, ground := Ground.phase }, { on := 4, ground := Ground.phase }, { on := 5, ground := Ground.phase }, { on := 6, ground := Ground.phase }, { on := 7, ground := Ground.phase }, { on := 8, ground := Ground.phase }, { on := 9, ground := Ground.phase }, { on := 10, ground := Ground.textOnly Departure.lateStores }, { on := 11, ground := Ground.textOnly Departure.lateStoresUnsure }, { on := 12, ground := Ground.textOnly Departure.lateStores }, { on := 13, ground := Ground.phase }], guard := none })) (v := ?v75) rfl (by kernel_rfl) (by kernel_rfl) (by kernel_rfl) (fun _ _ _ h => h) (Or.inl ⟨by rfl, ?hy75⟩) hHeld ?rest75
              case hy75 => (intro w' hSw; (try dsimp only at hSw); go_split_ands; go_simp; try with_reducible rfl)
              try simp only [Act.put, List.setIfInBounds_toArray, List.set_cons_zero, List.set_cons_succ]
              refine wpAnyH_take (i := 15) (oi := ({ dst := some 4, op := Op.assign (Operand.tmp 31), type := 3, pos := "l92_draw.go:343", after := #[{ on := 12, ground := Ground.data }, { on := 14, ground := Ground.chain }, { on := 0, ground := Ground.phase }, { on := 1, ground := Ground.phase }, { on := 2, ground := Ground.phase }, { on := 3, ground := Ground.phase }, { on := 4, ground := Ground.phase }, { on := 5, ground := Ground.phase }, { on := 6, ground := Ground.phase }, { on := 7, ground := Ground.phase }, { on := 8, ground := Ground.phase }, { on := 9, ground := Ground.phase }, { on := 10, ground := Ground.phase }, { on := 11, ground := Ground.phase }, { on := 12, ground := Ground.phase }, { on := 13, ground := Ground.phase }, { on := 14, ground := Ground.phase }], guard := none })) (v := ?v76) rfl (by kernel_rfl) (by kernel_rfl) (by kernel_rfl) (fun _ _ _ h => h) (Or.inl ⟨by rfl, ?hy76⟩) hHeld ?rest76
              case hy76 => (intro w' hSw; (try dsimp only at hSw); go_split_ands; go_simp; try with_reducible rfl)
              try simp only [Act.put, List.setIfInBounds_toArray, List.set_cons_zero, List.set_cons_succ]
              refine wpAnyH_done (by kernel_rfl) ?_ _
              clear hR s1 s2 l1 l2 n1 n2
              go_wp2
              go_ret3
              exact ⟨⟨_, _, _, rfl⟩, KW⟩
            exact AllReadyH.nil
          exact AllReadyH.nil
        refine AllReadyH.cons (o := ({ dst := some 26, op := Op.call { callee := Callee.value (Operand.func 75), args := #[Operand.tmp 25, Operand.const (Value.int IntKind.i64 4)], argTypes := #[80, 3] }, type := 3, pos := "l92_draw.go:343", after := #[{ on := 6, ground := Ground.data }, { on := 2, ground := Ground.chain }], guard := none })) rfl (fun K hK => ?_) ?_
        ·
          go_simp
          refine (pick_any B 4 4 _ (by omega) (by omega) hR).mono ?_
          rintro e v77 ⟨i77, rfl, i077, i177, hRn, hon, _⟩
          obtain ⟨j2, rfl⟩ := Int.eq_ofNat_of_zero_le i077
          replace F2 := fun x hx => (hon.cell (v41.heap.size) x l2 n2).trans (F2 x hx)
          replace l2 := Nat.lt_of_lt_of_le l2 hon.size
          replace KW := Only.keep hon KW (by omega)
          replace hR := hRn
          clear hRn hon
          go_simp
          refine hK.out _ _ trivial (fun hHeld => ?_)
          clear hK K
          try simp only [Act.put, List.setIfInBounds_toArray, List.set_cons_zero, List.set_cons_succ]
          obtain ⟨u2, hu2⟩ : ∃ u, [-10000, 9999, 1, -1].getD j2 0 = u := ⟨_, rfl⟩
          have s2 := F2 j2 (by omega)
          rw [hu2] at s2
          clear hu2 F2
          refine wpAnyH_mono (S2 := fun w' => w'.cell? ⟨v41.heap.size, j2, none⟩ = some (.int .i64 u2)) (fun _ h => trivial) _ _ _ _ ?_
          have hHeld : (fun w' => w'.cell? ⟨v41.heap.size, j2, none⟩ = some (.int .i64 u2)) v77 := s2
          refine wpAnyH_take (i := 8) (oi := ({ dst := some 27, op := Op.indexAddr 27 (Operand.tmp 24) (Operand.tmp 26), type := 0, pos := "l92_draw.go:343", after := #[{ on := 5, ground := Ground.data }, { on := 7, ground := Ground.data }, { on := 13, ground := Ground.gcOnly Departure.lateStores }], guard := none })) (v := ?v78) rfl (by kernel_rfl) (by kernel_rfl) (by kernel_rfl) (fun _ _ _ h => h) (Or.inl ⟨by rfl, ?hy78⟩) hHeld ?rest78
          case hy78 => (intro w' hSw; (try dsimp only at hSw); go_split_ands; go_simp; try with_reducible rfl)
          try simp only [Act.put, List.setIfInBounds_toArray, List.set_cons_zero, List.set_cons_succ]
          refine wpAnyH_take (i := 9) (oi := ({ dst := some 28, op := Op.load 3 (Operand.tmp 27), type := 3, pos := "l92_draw.go:343", after := #[{ on := 8, ground := Ground.data }, { on := 13, ground := Ground.gcOnly Departure.lateStores }], guard := none })) (v := ?v79) rfl (by kernel_rfl) (by kernel_rfl) (by kernel_rfl) (fun _ _ _ h => h) (Or.inl ⟨by rfl, ?hy79⟩) hHeld ?rest79
          case hy79 => (intro w' hSw; (try dsimp only at hSw); go_split_ands; go_simp; try with_reducible rfl)
          try simp only [Act.put, List.setIfInBounds_toArray, List.set_cons_zero, List.set_cons_succ]
          refine wpAnyH_ready (rs := [0, 11]) (by kernel_rfl) (by simp) ?_
          refine AllReadyH.cons (o := ({ dst := some 19, op := Op.buildSlice 27 3 #[(0, Operand.const (Value.int IntKind.i64 (-1000))), (1, Operand.const (Value.int IntKind.i64 (-999))), (2, Operand.const (Value.int IntKind.i64 10999))], type := 27, pos := "l92_draw.go:343", after := #[], guard := none })) rfl (fun K hK => ?_) ?_
          ·
            go_simp
            have hsz : v77.heap.size < (v77.alloc (.cells #[.int .i64 (-1000), .int .i64 (-999), .int .i64 10999] 3)).heap.size := by simp
            have hbe : v77.heap.size = v77.heap.size := by simp
            have F1 : ∀ x, x < 3 → (v77.alloc (.cells #[.int .i64 (-1000), .int .i64 (-999), .int .i64 10999] 3)).cell? ⟨v77.heap.size, x, none⟩ = some (.int .i64 ([-1000, -999, 10999].getD x 0)) := fun x hx => by rw [← hbe, World.cell?_alloc_new]; rcases (show x = 0 ∨ x = 1 ∨ x = 2 by omega) with rfl | rfl | rfl <;> rfl
            have l1 : v77.heap.size < (v77.alloc (.cells #[.int .i64 (-1000), .int .i64 (-999), .int .i64 10999] 3)).heap.size := by rw [← hbe]; exact hsz
            have n1 : v77.heap.size ≠ B := by rw [← hbe]; exact Nat.ne_of_gt hR.lt
            replace s2 := ((Keep.refl v77).alloc (.cells #[.int .i64 (-1000), .int .i64 (-999), .int .i64 10999] 3)).cell s2
            replace l2 := Nat.lt_trans l2 hsz
            replace hR := hR.alloc (.cells #[.int .i64 (-1000), .int .i64 (-999), .int .i64 10999] 3)
            replace KW := KW.alloc (.cells #[.int .i64 (-1000), .int .i64 (-999), .int .i64 10999] 3)
            clear hsz hbe
            refine hK.out _ _ s2 (fun hHeld => ?_)
            clear hK K
            try simp only [Act.put, List.setIfInBounds_toArray, List.set_cons_zero, List.set_cons_succ]
            obtain ⟨u1, hu1⟩ : ∃ u, [-1000, -999, 10999].getD j1 0 = u := ⟨_, rfl⟩
            have s1 := F1 j1 (by omega)
            rw [hu1] at s1
            clear hu1 F1
            refine wpAnyH_mono (S2 := fun w' => w'.cell? ⟨v77.heap.size, j1, none⟩ = some (.int .i64 u1) ∧ w'.cell? ⟨v41.heap.size, j2, none⟩ = some (.int .i64 u2)) (fun _ h => h.2) _ _ _ _ ?_
            have hHeld : (fun w' => w'.cell? ⟨v77.heap.size, j1, none⟩ = some (.int .i64 u1) ∧ w'.cell? ⟨v41.heap.size, j2, none⟩ = some (.int .i64 u2)) (v77.alloc (.cells #[.int .i64 (-1000), .int .i64 (-999), .int .i64 10999] 3)) := ⟨s1, s2⟩
            refine wpAnyH_take (i := 3) (oi := ({ dst := some 22, op := Op.indexAddr 27 (Operand.tmp 19) (Operand.tmp 21), type := 0, pos := "l92_draw.go:343", after := #[{ on := 0, ground := Ground.data }, { on := 2, ground := Ground.data }], guard := none })) (v := ?v80) rfl (by kernel_rfl) (by kernel_rfl) (by kernel_rfl) (fun _ _ _ h => h) (Or.inl ⟨by rfl, ?hy80⟩) hHeld ?rest80
            case hy80 => (intro w' hSw; (try dsimp only at hSw); go_split_ands; go_simp; try with_reducible rfl)
            try simp only [Act.put, List.setIfInBounds_toArray, List.set_cons_zero, List.set_cons_succ]
            refine wpAnyH_take (i := 4) (oi := ({ dst := some 23, op := Op.load 3 (Operand.tmp 22), type := 3, pos := "l92_draw.go:343", after := #[{ on := 3, ground := Ground.data }], guard := none })) (v := ?v81) rfl (by kernel_rfl) (by kernel_rfl) (by kernel_rfl) (fun _ _ _ h => h) (Or.inl ⟨by rfl, ?hy81⟩) hHeld ?rest81
            case hy81 => (intro w' hSw; (try dsimp only at hSw); go_split_ands; go_simp; try with_reducible rfl)
            try simp only [Act.put, List.setIfInBounds_toArray, List.set_cons_zero, List.set_cons_succ]
            refine wpAnyH_ready (rs := [11]) (by kernel_rfl) (by simp) ?_
            refine AllReadyH.cons (o := ({ dst := some 30, op := Op.call { callee := Callee.value (Operand.func 75), args := #[Operand.tmp 29, Operand.const (Value.int IntKind.i64 3)], argTypes := #[80, 3] }, type := 3, pos := "l92_draw.go:343", after := #[{ on := 10, ground := Ground.data }, { on := 7, ground := Ground.chain }], guard := none })) rfl (fun K hK => ?_) ?_
            ·
              go_simp
              refine (pick_any B 5 3 _ (by omega) (by omega) hR).mono ?_
              rintro e v82 ⟨i82, rfl, i082, i182, hRn, hon, _⟩
              obtain ⟨j3, rfl⟩ := Int.eq_ofNat_of_zero_le i082
              replace s1 := (hon.cell (v77.heap.size) j1 l1 n1).trans s1
              replace l1 := Nat.lt_of_lt_of_le l1 hon.size
              replace s2 := (hon.cell (v41.heap.size) j2 l2 n2).trans s2
              replace l2 := Nat.lt_of_lt_of_le l2 hon.size
              replace KW := Only.keep hon KW (by omega)
              replace hR := hRn
              clear hRn hon
              go_simp
              refine hK.out _ _ ⟨s1, s2⟩ (fun hHeld => ?_)
              clear hK K
              try simp only [Act.put, List.setIfInBounds_toArray, List.set_cons_zero, List.set_cons_succ]
              refine wpAnyH_take (i := 12) (oi := ({ dst := some 31, op := Op.binOp BinOp.mul 3 (Operand.tmp 30) (Operand.const (Value.int IntKind.i64 6)) 3, type := 3, pos := "l92_draw.go:343", after := #[{ on := 11, ground := Ground.data }, { on := 14, ground := Ground.gcOnly Departure.lateStores }], guard := none })) (v := ?v83) rfl (by kernel_rfl) (by kernel_rfl) (by kernel_rfl) (fun _ _ _ h => h) (Or.inl ⟨by rfl, ?hy83⟩) hHeld ?rest83
              case hy83 => (intro w' hSw; (try dsimp only at hSw); go_split_ands; go_simp; try with_reducible rfl)
              try simp only [Act.put, List.setIfInBounds_toArray, List.set_cons_zero, List.set_cons_succ]
              refine wpAnyH_take (i := 13) (oi := ({ dst := some 2, op := Op.assign (Operand.tmp 23), type := 3, pos := "l92_draw.go:343", after := #[{ on := 4, ground := Ground.data }, { on := 11, ground := Ground.chain }, { on := 0, ground := Ground.phase }, { on := 1, ground := Ground.phase }, { on := 2, ground := Ground.phase }, { on := 3, ground := Ground.phase }, { on := 4, ground := Ground.phase }, { on := 5, ground := Ground.textOnly Departure.lateStores }, { on := 6, ground := Ground.textOnly Departure.lateStores }, { on := 7, ground := Ground.textOnly Departure.lateStoresUnsure }, { on := 8, ground := Ground.textOnly Departure.lateStores }, { on := 9, ground := Ground.textOnly Departure.lateStores }, { on := 10, ground := Ground.textOnly Departure.lateStores }, { on := 11, ground := Ground.textOnly Departure.lateStoresUnsure }, { on := 12, ground := Ground.textOnly Departure.lateStores }], guard := none })) (v := ?v84) rfl (by kernel_rfl) (by kernel_rfl) (by kernel_rfl) (fun _ _ _ h => h) (Or.inl ⟨by rfl, ?hy84⟩) hHeld ?rest84
              case hy84 => (intro w' hSw; (try dsimp only at hSw); go_split_ands; go_simp; try with_reducible rfl)
              try simp only [Act.put, List.setIfInBounds_toArray, List.set_cons_zero, List.set_cons_succ]
              refine wpAnyH_take (i := 14) (oi := ({ dst := some 3, op := Op.assign (Operand.tmp 28), type := 3, pos := "l92_draw.go:343", after := #[{ on := 9, ground := Ground.data }, { on := 13, ground := Ground.chain }, { on := 0, ground := Ground.phase }, { on := 1, ground := Ground.phase }, { on := 2, ground := Ground.phase }, { on := 3, ground := Ground.phase }, { on := 4, ground := Ground.phase }, { on := 5, ground := Ground.phase }, { on := 6, ground := Ground.phase }, { on := 7, ground := Ground.phase }, { on := 8, ground := Ground.phase }, { on := 9, ground := Ground.phase }, { on := 10, ground := Ground.textOnly Departure.lateStores }, { on := 11, ground := Ground.textOnly Departure.lateStoresUnsure }, { on := 12, ground := Ground.textOnly Departure.lateStores }, { on := 13, ground := Ground.phase }], guard := none })) (v := ?v85) rfl (by kernel_rfl) (by kernel_rfl) (by kernel_rfl) (fun _ _ _ h => h) (Or.inl ⟨by rfl, ?hy85⟩) hHeld ?rest85
              case hy85 => (intro w' hSw; (try dsimp only at hSw); go_split_ands; go_simp; try with_reducible rfl)
              try simp only [Act.put, List.setIfInBounds_toArray, List.set_cons_zero, List.set_cons_succ]
              refine wpAnyH_take (i := 15) (oi := ({ dst := some 4, op := Op.assign (Operand.tmp 31), type := 3, pos := "l92_draw.go:343", after := #[{ on := 12, ground := Ground.data }, { on := 14, ground := Ground.chain }, { on := 0, ground := Ground.phase }, { on := 1, ground := Ground.phase }, { on := 2, ground := Ground.phase }, { on := 3, ground := Ground.phase }, { on := 4, ground := Ground.phase }, { on := 5, ground := Ground.phase }, { on := 6, ground := Ground.phase }, { on := 7, ground := Ground.phase }, { on := 8, ground := Ground.phase }, { on := 9, ground := Ground.phase }, { on := 10, ground := Ground.phase }, { on := 11, ground := Ground.phase }, { on := 12, ground := Ground.phase }, { on := 13, ground := Ground.phase }, { on := 14, ground := Ground.phase }], guard := none })) (v := ?v86) rfl (by kernel_rfl) (by kernel_rfl) (by kernel_rfl) (fun _ _ _ h => h) (Or.inl ⟨by rfl, ?hy86⟩) hHeld ?rest86
              case hy86 => (intro w' hSw; (try dsimp only at hSw); go_split_ands; go_simp; try with_reducible rfl)
              try simp only [Act.put, List.setIfInBounds_toArray, List.set_cons_zero, List.set_cons_succ]
              refine wpAnyH_done (by kernel_rfl) ?_ _
              clear hR s1 s2 l1 l2 n1 n2
              go_wp2
              go_ret3
              exact ⟨⟨_, _, _, rfl⟩, KW⟩
            exact AllReadyH.nil
          refine AllReadyH.cons (o := ({ dst := some 30, op := Op.call { callee := Callee.value (Operand.func 75), args := #[Operand.tmp 29, Operand.const (Value.int IntKind.i64 3)], argTypes := #[80, 3] }, type := 3, pos := "l92_draw.go:343", after := #[{ on := 10, ground := Ground.data }, { on := 7, ground := Ground.chain }], guard := none })) rfl (fun K hK => ?_) ?_
          ·
            go_simp
            refine (pick_any B 5 3 _ (by omega) (by omega) hR).mono ?_
            rintro e v87 ⟨i87, rfl, i087, i187, hRn, hon, _⟩
            obtain ⟨j3, rfl⟩ := Int.eq_ofNat_of_zero_le i087
            replace s2 := (hon.cell (v41.heap.size) j2 l2 n2).trans s2
            replace l2 := Nat.lt_of_lt_of_le l2 hon.size
            replace KW := Only.keep hon KW (by omega)
            replace hR := hRn
            clear hRn hon
            go_simp
            refine hK.out _ _ s2 (fun hHeld => ?_)
            clear hK K
            try simp only [Act.put, List.setIfInBounds_toArray, List.set_cons_zero, List.set_cons_succ]
            refine wpAnyH_take (i := 12) (oi := ({ dst := some 31, op := Op.binOp BinOp.mul 3 (Operand.tmp 30) (Operand.const (Value.int IntKind.i64 6)) 3, type := 3, pos := "l92_draw.go:343", after := #[{ on := 11, ground := Ground.data }, { on := 14, ground := Ground.gcOnly Departure.lateStores }], guard := none })) (v := ?v88) rfl (by kernel_rfl) (by kernel_rfl) (by kernel_rfl) (fun _ _ _ h => h) (Or.inl ⟨by rfl, ?hy88⟩) hHeld ?rest88
            case hy88 => (intro w' hSw; (try dsimp only at hSw); go_split_ands; go_simp; try with_reducible rfl)
            try simp only [Act.put, List.setIfInBounds_toArray, List.set_cons_zero, List.set_cons_succ]
            refine wpAnyH_ready (rs := [0]) (by kernel_rfl) (by simp) ?_
            refine AllReadyH.cons (o := ({ dst := some 19, op := Op.buildSlice 27 3 #[(0, Operand.const (Value.int IntKind.i64 (-1000))), (1, Operand.const (Value.int IntKind.i64 (-999))), (2, Operand.const (Value.int IntKind.i64 10999))], type := 27, pos := "l92_draw.go:343", after := #[], guard := none })) rfl (fun K hK => ?_) ?_
            ·
              go_simp
              have hsz : v87.heap.size < (v87.alloc (.cells #[.int .i64 (-1000), .int .i64 (-999), .int .i64 10999] 3)).heap.size := by simp
              have hbe : v87.heap.size = v87.heap.size := by simp
              have F1 : ∀ x, x < 3 → (v87.alloc (.cells #[.int .i64 (-1000), .int .i64 (-999), .int .i64 10999] 3)).cell? ⟨v87.heap.size, x, none⟩ = some (.int .i64 ([-1000, -999, 10999].getD x 0)) := fun x hx => by rw [← hbe, World.cell?_alloc_new]; rcases (show x = 0 ∨ x = 1 ∨ x = 2 by omega) with rfl | rfl | rfl <;> rfl
              have l1 : v87.heap.size < (v87.alloc (.cells #[.int .i64 (-1000), .int .i64 (-999), .int .i64 10999] 3)).heap.size := by rw [← hbe]; exact hsz
              have n1 : v87.heap.size ≠ B := by rw [← hbe]; exact Nat.ne_of_gt hR.lt
              replace s2 := ((Keep.refl v87).alloc (.cells #[.int .i64 (-1000), .int .i64 (-999), .int .i64 10999] 3)).cell s2
              replace l2 := Nat.lt_trans l2 hsz
              replace hR := hR.alloc (.cells #[.int .i64 (-1000), .int .i64 (-999), .int .i64 10999] 3)
              replace KW := KW.alloc (.cells #[.int .i64 (-1000), .int .i64 (-999), .int .i64 10999] 3)
              clear hsz hbe
              refine hK.out _ _ s2 (fun hHeld => ?_)
              clear hK K
              try simp only [Act.put, List.setIfInBounds_toArray, List.set_cons_zero, List.set_cons_succ]
              obtain ⟨u1, hu1⟩ : ∃ u, [-1000, -999, 10999].getD j1 0 = u := ⟨_, rfl⟩
              have s1 := F1 j1 (by omega)
              rw [hu1] at s1
              clear hu1 F1
              refine wpAnyH_mono (S2 := fun w' => w'.cell? ⟨v87.heap.size, j1, none⟩ = some (.int .i64 u1) ∧ w'.cell? ⟨v41.heap.size, j2, none⟩ = some (.int .i64 u2)) (fun _ h => h.2) _ _ _ _ ?_
              have hHeld : (fun w' => w'.cell? ⟨v87.heap.size, j1, none⟩ = some (.int .i64 u1) ∧ w'.cell? ⟨v41.heap.size, j2, none⟩ = some (.int .i64 u2)) (v87.alloc (.cells #[.int .i64 (-1000), .int .i64 (-999), .int .i64 10999] 3)) := ⟨s1, s2⟩
              refine wpAnyH_take (i := 3) (oi := ({ dst := some 22, op := Op.indexAddr 27 (Operand.tmp 19) (Operand.tmp 21), type := 0, pos := "l92_draw.go:343", after := #[{ on := 0, ground := Ground.data }, { on := 2, ground := Ground.data }], guard := none })) (v := ?v89) rfl (by kernel_rfl) (by kernel_rfl) (by kernel_rfl) (fun _ _ _ h => h) (Or.inl ⟨by rfl, ?hy89⟩) hHeld ?rest89
              case hy89 => (intro w' hSw; (try dsimp only at hSw); go_split_ands; go_simp; try with_reducible rfl)
              try simp only [Act.put, List.setIfInBounds_toArray, List.set_cons_zero, List.set_cons_succ]
              refine wpAnyH_take (i := 4) (oi := ({ dst := some 23, op := Op.load 3 (Operand.tmp 22), type := 3, pos := "l92_draw.go:343", after := #[{ on := 3, ground := Ground.data }], guard := none })) (v := ?v90) rfl (by kernel_rfl) (by kernel_rfl) (by kernel_rfl) (fun _ _ _ h => h) (Or.inl ⟨by rfl, ?hy90⟩) hHeld ?rest90
              case hy90 => (intro w' hSw; (try dsimp only at hSw); go_split_ands; go_simp; try with_reducible rfl)
              try simp only [Act.put, List.setIfInBounds_toArray, List.set_cons_zero, List.set_cons_succ]
              refine wpAnyH_take (i := 13) (oi := ({ dst := some 2, op := Op.assign (Operand.tmp 23), type := 3, pos := "l92_draw.go:343", after := #[{ on := 4, ground := Ground.data }, { on := 11, ground := Ground.chain }, { on := 0, ground := Ground.phase }, { on := 1, ground := Ground.phase }, { on := 2, ground := Ground.phase }, { on := 3, ground := Ground.phase }, { on := 4, ground := Ground.phase }, { on := 5, ground := Ground.textOnly Departure.lateStores }, { on := 6, ground := Ground.textOnly Departure.lateStores }, { on := 7, ground := Ground.textOnly Departure.lateStoresUnsure }, { on := 8, ground := Ground.textOnly Departure.lateStores }, { on := 9, ground := Ground.textOnly Departure.lateStores }, { on := 10, ground := Ground.textOnly Departure.lateStores }, { on := 11, ground := Ground.textOnly Departure.lateStoresUnsure }, { on := 12, ground := Ground.textOnly Departure.lateStores }], guard := none })) (v := ?v91) rfl (by kernel_rfl) (by kernel_rfl) (by kernel_rfl) (fun _ _ _ h => h) (Or.inl ⟨by rfl, ?hy91⟩) hHeld ?rest91
              case hy91 => (intro w' hSw; (try dsimp only at hSw); go_split_ands; go_simp; try with_reducible rfl)
              try simp only [Act.put, List.setIfInBounds_toArray, List.set_cons_zero, List.set_cons_succ]
              refine wpAnyH_take (i := 14) (oi := ({ dst := some 3, op := Op.assign (Operand.tmp 28), type := 3, pos := "l92_draw.go:343", after := #[{ on := 9, ground := Ground.data }, { on := 13, ground := Ground.chain }, { on := 0, ground := Ground.phase }, { on := 1, ground := Ground.phase }, { on := 2, ground := Ground.phase }, { on := 3, ground := Ground.phase }, { on := 4, ground := Ground.phase }, { on := 5, ground := Ground.phase }, { on := 6, ground := Ground.phase }, { on := 7, ground := Ground.phase }, { on := 8, ground := Ground.phase }, { on := 9, ground := Ground.phase }, { on := 10, ground := Ground.textOnly Departure.lateStores }, { on := 11, ground := Ground.textOnly Departure.lateStoresUnsure }, { on := 12, ground := Ground.textOnly Departure.lateStores }, { on := 13, ground := Ground.phase }], guard := none })) (v := ?v92) rfl (by kernel_rfl) (by kernel_rfl) (by kernel_rfl) (fun _ _ _ h => h) (Or.inl ⟨by rfl, ?hy92⟩) hHeld ?rest92
              case hy92 => (intro w' hSw; (try dsimp only at hSw); go_split_ands; go_simp; try with_reducible rfl)
              try simp only [Act.put, List.setIfInBounds_toArray, List.set_cons_zero, List.set_cons_succ]
              refine wpAnyH_take (i := 15) (oi := ({ dst := some 4, op := Op.assign (Operand.tmp 31), type := 3, pos := "l92_draw.go:343", after := #[{ on := 12, ground := Ground.data }, { on := 14, ground := Ground.chain }, { on := 0, ground := Ground.phase }, { on := 1, ground := Ground.phase }, { on := 2, ground := Ground.phase }, { on := 3, ground := Ground.phase }, { on := 4, ground := Ground.phase }, { on := 5, ground := Ground.phase }, { on := 6, ground := Ground.phase }, { on := 7, ground := Ground.phase }, { on := 8, ground := Ground.phase }, { on := 9, ground := Ground.phase }, { on := 10, ground := Ground.phase }, { on := 11, ground := Ground.phase }, { on := 12, ground := Ground.phase }, { on := 13, ground := Ground.phase }, { on := 14, ground := Ground.phase }], guard := none })) (v := ?v93) rfl (by kernel_rfl) (by kernel_rfl) (by kernel_rfl) (fun _ _ _ h => h) (Or.inl ⟨by rfl, ?hy93⟩) hHeld ?rest93
              case hy93 => (intro w' hSw; (try dsimp only at hSw); go_split_ands; go_simp; try with_reducible rfl)
              try simp only [Act.put, List.setIfInBounds_toArray, List.set_cons_zero, List.set_cons_succ]
              refine wpAnyH_done (by kernel_rfl) ?_ _
              clear hR s1 s2 l1 l2 n1 n2
              go_wp2
              go_ret3
              exact ⟨⟨_, _, _, rfl⟩, KW⟩
            exact AllReadyH.nil
          exact AllReadyH.nil
        exact AllReadyH.nil
      refine AllReadyH.cons (o := ({ dst := some 26, op := Op.call { callee := Callee.value (Operand.func 75), args := #[Operand.tmp 25, Operand.const (Value.int IntKind.i64 4)], argTypes := #[80, 3] }, type := 3, pos := "l92_draw.go:343", after := #[{ on := 6, ground := Ground.data }, { on := 2, ground := Ground.chain }], guard := none })) rfl (fun K hK => ?_) ?_
      ·
        go_simp
        refine (pick_any B 4 4 _ (by omega) (by omega) hR).mono ?_
        rintro e v94 ⟨i94, rfl, i094, i194, hRn, hon, _⟩
        obtain ⟨j2, rfl⟩ := Int.eq_ofNat_of_zero_le i094
        replace KW := Only.keep hon KW (by omega)
        replace hR := hRn
        clear hRn hon
        go_simp
        refine hK.out _ _ trivial (fun hHeld => ?_)
        clear hK K
        try simp only [Act.put, List.setIfInBounds_toArray, List.set_cons_zero, List.set_cons_succ]
        refine wpAnyH_ready (rs := [0, 5, 11]) (by kernel_rfl) (by simp) ?_
        refine AllReadyH.cons (o := ({ dst := some 19, op := Op.buildSlice 27 3 #[(0, Operand.const (Value.int IntKind.i64 (-1000))), (1, Operand.const (Value.int IntKind.i64 (-999))), (2, Operand.const (Value.int IntKind.i64 10999))], type := 27, pos := "l92_draw.go:343", after := #[], guard := none })) rfl (fun K hK => ?_) ?_
        ·
          go_simp
          have hsz : v94.heap.size < (v94.alloc (.cells #[.int .i64 (-1000), .int .i64 (-999), .int .i64 10999] 3)).heap.size := by simp
          have hbe : v94.heap.size = v94.heap.size := by simp
          have F1 : ∀ x, x < 3 → (v94.alloc (.cells #[.int .i64 (-1000), .int .i64 (-999), .int .i64 10999] 3)).cell? ⟨v94.heap.size, x, none⟩ = some (.int .i64 ([-1000, -999, 10999].getD x 0)) := fun x hx => by rw [← hbe, World.cell?_alloc_new]; rcases (show x = 0 ∨ x = 1 ∨ x = 2 by omega) with rfl | rfl | rfl <;> rfl
          have l1 : v94.heap.size < (v94.alloc (.cells #[.int .i64 (-1000), .int .i64 (-999), .int .i64 10999] 3)).heap.size := by rw [← hbe]; exact hsz
          have n1 : v94.heap.size ≠ B := by rw [← hbe]; exact Nat.ne_of_gt hR.lt
          replace hR := hR.alloc (.cells #[.int .i64 (-1000), .int .i64 (-999), .int .i64 10999] 3)
          replace KW := KW.alloc (.cells #[.int .i64 (-1000), .int .i64 (-999), .int .i64 10999] 3)
          clear hsz hbe
          refine hK.out _ _ trivial (fun hHeld => ?_)
          clear hK K
          try simp only [Act.put, List.setIfInBounds_toArray, List.set_cons_zero, List.set_cons_succ]
          obtain ⟨u1, hu1⟩ : ∃ u, [-1000, -999, 10999].getD j1 0 = u := ⟨_, rfl⟩
          have s1 := F1 j1 (by omega)
          rw [hu1] at s1
          clear hu1 F1
          refine wpAnyH_mono (S2 := fun w' => w'.cell? ⟨v94.heap.size, j1, none⟩ = some (.int .i64 u1)) (fun _ h => trivial) _ _ _ _ ?_
          have hHeld : (fun w' => w'.cell? ⟨v94.heap.size, j1, none⟩ = some (.int .i64 u1)) (v94.alloc (.cells #[.int .i64 (-1000), .int .i64 (-999), .int .i64 10999] 3)) := s1
          refine wpAnyH_take (i := 3) (oi := ({ dst := some 22, op := Op.indexAddr 27 (Operand.tmp 19) (Operand.tmp 21), type := 0, pos := "l92_draw.go:343", after := #[{ on := 0, ground := Ground.data }, { on := 2, ground := Ground.data }], guard := none })) (v := ?v95) rfl (by kernel_rfl) (by kernel_rfl) (by kernel_rfl) (fun _ _ _ h => h) (Or.inl ⟨by rfl, ?hy95⟩) hHeld ?rest95
          case hy95 => (intro w' hSw; (try dsimp only at hSw); go_split_ands; go_simp; try with_reducible rfl)
          try simp only [Act.put, List.setIfInBounds_toArray, List.set_cons_zero, List.set_cons_succ]
          refine wpAnyH_take (i := 4) (oi := ({ dst := some 23, op := Op.load 3 (Operand.tmp 22), type := 3, pos := "l92_draw.go:343", after := #[{ on := 3, ground := Ground.data }], guard := none })) (v := ?v96) rfl (by kernel_rfl) (by kernel_rfl) (by kernel_rfl) (fun _ _ _ h => h) (Or.inl ⟨by rfl, ?hy96⟩) hHeld ?rest96
          case hy96 => (intro w' hSw; (try dsimp only at hSw); go_split_ands; go_simp; try with_reducible rfl)
          try simp only [Act.put, List.setIfInBounds_toArray, List.set_cons_zero, List.set_cons_succ]
          refine wpAnyH_ready (rs := [5, 11]) (by kernel_rfl) (by simp) ?_
          refine AllReadyH.cons (o := ({ dst := some 24, op := Op.buildSlice 27 4 #[(0, Operand.const (Value.int IntKind.i64 (-10000))), (1, Operand.const (Value.int IntKind.i64 9999)), (2, Operand.const (Value.int IntKind.i64 1)), (3, Operand.const (Value.int IntKind.i64 (-1)))], type := 27, pos := "l92_draw.go:343", after := #[{ on := 13, ground := Ground.gcOnly Departure.lateStores }], guard := none })) rfl (fun K hK => ?_) ?_
          ·
            go_simp
            have hsz : (v94.alloc (.cells #[.int .i64 (-1000), .int .i64 (-999), .int .i64 10999] 3)).heap.size < ((v94.alloc (.cells #[.int .i64 (-1000), .int .i64 (-999), .int .i64 10999] 3)).alloc (.cells #[.int .i64 (-10000), .int .i64 9999, .int .i64 1, .int .i64 (-1)] 3)).heap.size := by simp
            have hbe : (v94.alloc (.cells #[.int .i64 (-1000), .int .i64 (-999), .int .i64 10999] 3)).heap.size = v94.heap.size + 1 := by simp
            have F2 : ∀ x, x < 4 → ((v94.alloc (.cells #[.int .i64 (-1000), .int .i64 (-999), .int .i64 10999] 3)).alloc (.cells #[.int .i64 (-10000), .int .i64 9999, .int .i64 1, .int .i64 (-1)] 3)).cell? ⟨v94.heap.size + 1, x, none⟩ = some (.int .i64 ([-10000, 9999, 1, -1].getD x 0)) := fun x hx => by rw [← hbe, World.cell?_alloc_new]; rcases (show x = 0 ∨ x = 1 ∨ x = 2 ∨ x = 3 by omega) with rfl | rfl | rfl | rfl <;> rfl
            have l2 : v94.heap.size + 1 < ((v94.alloc (.cells #[.int .i64 (-1000), .int .i64 (-999), .int .i64 10999] 3)).alloc (.cells #[.int .i64 (-10000), .int .i64 9999, .int .i64 1, .int .i64 (-1)] 3)).heap.size := by rw [← hbe]; exact hsz
            have n2 : v94.heap.size + 1 ≠ B := by rw [← hbe]; exact Nat.ne_of_gt hR.lt
            replace s1 := ((Keep.refl (v94.alloc (.cells #[.int .i64 (-1000), .int .i64 (-999), .int .i64 10999] 3))).alloc (.cells #[.int .i64 (-10000), .int .i64 9999, .int .i64 1, .int .i64 (-1)] 3)).cell s1
            replace l1 := Nat.lt_trans l1 hsz
            replace hR := hR.alloc (.cells #[.int .i64 (-10000), .int .i64 9999, .int .i64 1, .int .i64 (-1)] 3)
            replace KW := KW.alloc (.cells #[.int .i64 (-10000), .int .i64 9999, .int .i64 1, .int .i64 (-1)] 3)
            clear hsz hbe
            refine hK.out _ _ s1 (fun hHeld => ?_)
            clear hK K
            try simp only [Act.put, List.setIfInBounds_toArray, List.set_cons_zero, List.set_cons_succ]
            obtain ⟨u2, hu2⟩ : ∃ u, [-10000, 9999, 1, -1].getD j2 0 = u := ⟨_, rfl⟩
            have s2 := F2 j2 (by omega)
            rw [hu2] at s2
            clear hu2 F2
            refine wpAnyH_mono (S2 := fun w' => w'.cell? ⟨v94.heap.size, j1, none⟩ = some (.int .i64 u1) ∧ w'.cell? ⟨v94.heap.size + 1, j2, none⟩ = some (.int .i64 u2)) (fun _ h => h.1) _ _ _ _ ?_
            have hHeld : (fun w' => w'.cell? ⟨v94.heap.size, j1, none⟩ = some (.int .i64 u1) ∧ w'.cell? ⟨v94.heap.size + 1, j2, none⟩ = some (.int .i64 u2)) ((v94.alloc (.cells #[.int .i64 (-1000), .int .i64 (-999), .int .i64 10999] 3)).alloc (.cells #[.int .i64 (-10000), .int .i64 9999, .int .i64 1, .int .i64 (-1)] 3)) := ⟨s1, s2⟩
            refine wpAnyH_take (i := 8) (oi := ({ dst := some 27, op := Op.indexAddr 27 (Operand.tmp 24) (Operand.tmp 26), type := 0, pos := "l92_draw.go:343", after := #[{ on := 5, ground := Ground.data }, { on := 7, ground := Ground.data }, { on := 13, ground := Ground.gcOnly Departure.lateStores }], guard := none })) (v := ?v97) rfl (by kernel_rfl) (by kernel_rfl) (by kernel_rfl) (fun _ _ _ h => h) (Or.inl ⟨by rfl, ?hy97⟩) hHeld ?rest97
            case hy97 => (intro w' hSw; (try dsimp only at hSw); go_split_ands; go_simp; try with_reducible rfl)
            try simp only [Act.put, List.setIfInBounds_toArray, List.set_cons_zero, List.set_cons_succ]
            refine wpAnyH_take (i := 9) (oi := ({ dst := some 28, op := Op.load 3 (Operand.tmp 27), type := 3, pos := "l92_draw.go:343", after := #[{ on := 8, ground := Ground.data }, { on := 13, ground := Ground.gcOnly Departure.lateStores }], guard := none })) (v := ?v98) rfl (by kernel_rfl) (by kernel_rfl) (by kernel_rfl) (fun _ _ _ h => h) (Or.inl ⟨by rfl, ?hy98⟩) hHeld ?rest98
            case hy98 => (intro w' hSw; (try dsimp only at hSw); go_split_ands; go_simp; try with_reducible rfl)
            try simp only [Act.put, List.setIfInBounds_toArray, List.set_cons_zero, List.set_cons_succ]
            refine wpAnyH_ready (rs := [11]) (by kernel_rfl) (by simp) ?_
            refine AllReadyH.cons (o := ({ dst := some 30, op := Op.call { callee := Callee.value (Operand.func 75), args := #[Operand.tmp 29, Operand.const (Value.int IntKind.i64 3)], argTypes := #[80, 3] }, type := 3, pos := "l92_draw.go:343", after := #[{ on := 10, ground := Ground.data }, { on := 7, ground := Ground.chain }], guard := none })) rfl (fun K hK => ?_) ?_
            ·
              go_simp
              refine (pick_any B 5 3 _ (by omega) (by omega) hR).mono ?_
              rintro e v99 ⟨i99, rfl, i099, i199, hRn, hon, _⟩
              obtain ⟨j3, rfl⟩ := Int.eq_ofNat_of_zero_le i099
              replace s1 := (hon.cell (v94.heap.size) j1 l1 n1).trans s1
              replace l1 := Nat.lt_of_lt_of_le l1 hon.size
              replace s2 := (hon.cell (v94.heap.size + 1) j2 l2 n2).trans s2
              replace l2 := Nat.lt_of_lt_of_le l2 hon.size
              replace KW := Only.keep hon KW (by omega)
              replace hR := hRn
              clear hRn hon
              go_simp
              refine hK.out _ _ ⟨s1, s2⟩ (fun hHeld => ?_)
              clear hK K
              try simp only [Act.put, List.setIfInBounds_toArray, List.set_cons_zero, List.set_cons_succ]
              refine wpAnyH_take (i := 12) (oi := ({ dst := some 31, op := Op.binOp BinOp.mul 3 (Operand.tmp 30) (Operand.const (Value.int IntKind.i64 6)) 3, type := 3, pos := "l92_draw.go:343", after := #[{ on := 11, ground := Ground.data }, { on := 14, ground := Ground.gcOnly Departure.lateStores }], guard := none })) (v := ?v100) rfl (by kernel_rfl) (by kernel_rfl) (by kernel_rfl) (fun _ _ _ h => h) (Or.inl ⟨by rfl, ?hy100⟩) hHeld ?rest100
              case hy100 => (intro w' hSw; (try dsimp only at hSw); go_split_ands; go_simp; try with_reducible rfl)
              try simp only [Act.put, List.setIfInBounds_toArray, List.set_cons_zero, List.set_cons_succ]
              refine wpAnyH_take (i := 13) (oi := ({ dst := some 2, op := Op.assign (Operand.tmp 23), type := 3, pos := "l92_draw.go:343", after := #[{ on := 4, ground := Ground.data }, { on := 11, ground := Ground.chain }, { on := 0, ground := Ground.phase }, { on := 1, ground := Ground.phase }, { on := 2, ground := Ground.phase }, { on := 3, ground := Ground.phase }, { on := 4, ground := Ground.phase }, { on := 5, ground := Ground.textOnly Departure.lateStores }, { on := 6, ground := Ground.textOnly Departure.lateStores }, { on := 7, ground := Ground.textOnly Departure.lateStoresUnsure }, { on := 8, ground := Ground.textOnly Departure.lateStores }, { on := 9, ground := Ground.textOnly Departure.lateStores }, { on := 10, ground := Ground.textOnly Departure.lateStores }, { on := 11, ground := Ground.textOnly Departure.lateStoresUnsure }, { on := 12, ground := Ground.textOnly Departure.lateStores }], guard := none })) (v := ?v101) rfl (by kernel_rfl) (by kernel_rfl) (by kernel_rfl) (fun _ _ _ h => h) (Or.inl ⟨by rfl, ?hy101⟩) hHeld ?rest101
              case hy101 => (intro w' hSw; (try dsimp only at hSw); go_split_ands; go_simp; try with_reducible rfl)
              try simp only [Act.put, List.setIfInBounds_toArray, List.set_cons_zero, List.set_cons_succ]
              refine wpAnyH_take (i := 14) (oi := ({ dst := some 3, op := Op.assign (Operand.tmp 28), type := 3, pos := "l92_draw.go:343", after := #[{ on := 9, ground := Ground.data }, { on := 13, ground := Ground.chain }, { on := 0, ground := Ground.phase }, { on := 1, ground := Ground.phase }, { on := 2, ground := Ground.phase }, { on := 3, ground := Ground.phase }, { on := 4, ground := Ground.phase }, { on := 5, ground := Ground.phase }, { on := 6, ground := Ground.phase }, { on := 7, ground := Ground.phase }, { on := 8, ground := Ground.phase }, { on := 9, ground := Ground.phase }, { on := 10, ground := Ground.textOnly Departure.lateStores }, { on := 11, ground := Ground.textOnly Departure.lateStoresUnsure }, { on := 12, ground := Ground.textOnly Departure.lateStores }, { on := 13, ground := Ground.phase }], guard := none })) (v := ?v102) rfl (by kernel_rfl) (by kernel_rfl) (by kernel_rfl) (fun _ _ _ h => h) (Or.inl ⟨by rfl, ?hy102⟩) hHeld ?rest102
              case hy102 => (intro w' hSw; (try dsimp only at hSw); go_split_ands; go_simp; try with_reducible rfl)
              try simp only [Act.put, List.setIfInBounds_toArray, List.set_cons_zero, List.set_cons_succ]
              refine wpAnyH_take (i := 15) (oi := ({ dst := some 4, op := Op.assign (Operand.tmp 31), type := 3, pos := "l92_draw.go:343", after := #[{ on := 12, ground := Ground.data }, { on := 14, ground := Ground.chain }, { on := 0, ground := Ground.phase }, { on := 1, ground := Ground.phase }, { on := 2, ground := Ground.phase }, { on := 3, ground := Ground.phase }, { on := 4, ground := Ground.phase }, { on := 5, ground := Ground.phase }, { on := 6, ground := Ground.phase }, { on := 7, ground := Ground.phase }, { on := 8, ground := Ground.phase }, { on := 9, ground := Ground.phase }, { on := 10, ground := Ground.phase }, { on := 11, ground := Ground.phase }, { on := 12, ground := Ground.phase }, { on := 13, ground := Ground.phase }, { on := 14, ground := Ground.phase }], guard := none })) (v := ?v103) rfl (by kernel_rfl) (by kernel_rfl) (by kernel_rfl) (fun _ _ _ h => h) (Or.inl ⟨by rfl, ?hy103⟩) hHeld ?rest103
              case hy103 => (intro w' hSw; (try dsimp only at hSw); go_split_ands; go_simp; try with_reducible rfl)
              try simp only [Act.put, List.setIfInBounds_toArray, List.set_cons_zero, List.set_cons_succ]
              refine wpAnyH_done (by kernel_rfl) ?_ _
              clear hR s1 s2 l1 l2 n1 n2
              go_wp2
              go_ret3
              exact ⟨⟨_, _, _, rfl⟩, KW⟩
            exact AllReadyH.nil
          refine AllReadyH.cons (o := ({ dst := some 30, op := Op.call { callee := Callee.value (Operand.func 75), args := #[Operand.tmp 29, Operand.const (Value.int IntKind.i64 3)], argTypes := #[80, 3] }, type := 3, pos := "l92_draw.go:343", after := #[{ on := 10, ground := Ground.data }, { on := 7, ground := Ground.chain }], guard := none })) rfl (fun K hK => ?_) ?_
          ·
            go_simp
            refine (pick_any B 5 3 _ (by omega) (by omega) hR).mono ?_
            rintro e v104 ⟨i104, rfl, i0104, i1104, hRn, hon, _⟩
            obtain ⟨j3, rfl⟩ := Int.eq_ofNat_of_zero_le i0104
            replace s1 := (hon.cell (v94.heap.size) j1 l1 n1).trans s1
            replace l1 := Nat.lt_of_lt_of_le l1 hon.size
            replace KW := Only.keep hon KW (by omega)
            replace hR := hRn
            clear hRn hon
            go_simp
            refine hK.out _ _ s1 (fun hHeld => ?_)
            clear hK K
            try simp only [Act.put, List.setIfInBounds_toArray, List.set_cons_zero, List.set_cons_succ]
            refine wpAnyH_take (i := 12) (oi := ({ dst := some 31, op := Op.binOp BinOp.mul 3 (Operand.tmp 30) (Operand.const (Value.int IntKind.i64 6)) 3, type := 3, pos := "l92_draw.go:343", after := #[{ on := 11, ground := Ground.data }, { on := 14, ground := Ground.gcOnly Departure.lateStores }], guard := none })) (v := ?v105) rfl (by kernel_rfl) (by kernel_rfl) (by kernel_rfl) (fun _ _ _ h => h) (Or.inl ⟨by rfl, ?hy105⟩) hHeld ?rest105
            case hy105 => (intro w' hSw; (try dsimp only at hSw); go_split_ands; go_simp; try with_reducible rfl)
            try simp only [Act.put, List.setIfInBounds_toArray, List.set_cons_zero, List.set_cons_succ]
            refine wpAnyH_take (i := 13) (oi := ({ dst := some 2, op := Op.assign (Operand.tmp 23), type := 3, pos := "l92_draw.go:343", after := #[{ on := 4, ground := Ground.data }, { on := 11, ground := Ground.chain }, { on := 0, ground := Ground.phase }, { on := 1, ground := Ground.phase }, { on := 2, ground := Ground.phase }, { on := 3, ground := Ground.phase }, { on := 4, ground := Ground.phase }, { on := 5, ground := Ground.textOnly Departure.lateStores }, { on := 6, ground := Ground.textOnly Departure.lateStores }, { on := 7, ground := Ground.textOnly Departure.lateStoresUnsure }, { on := 8, ground := Ground.textOnly Departure.lateStores }, { on := 9, ground := Ground.textOnly Departure.lateStores }, { on := 10, ground := Ground.textOnly Departure.lateStores }, { on := 11, ground := Ground.textOnly Departure.lateStoresUnsure }, { on := 12, ground := Ground.textOnly Departure.lateStores }], guard := none })) (v := ?v106) rfl (by kernel_rfl) (by kernel_rfl) (by kernel_rfl) (fun _ _ _ h => h) (Or.inl ⟨by rfl, ?hy106⟩) hHeld ?rest106
            case hy106 => (intro w' hSw; (try dsimp only at hSw); go_split_ands; go_simp; try with_reducible rfl)
            try simp only [Act.put, List.setIfInBounds_toArray, List.set_cons_zero, List.set_cons_succ]
            refine wpAnyH_ready (rs := [5]) (by kernel_rfl) (by simp) ?_
            refine AllReadyH.cons (o := ({ dst := some 24, op := Op.buildSlice 27 4 #[(0, Operand.const (Value.int IntKind.i64 (-10000))), (1, Operand.const (Value.int IntKind.i64 9999)), (2, Operand.const (Value.int IntKind.i64 1)), (3, Operand.const (Value.int IntKind.i64 (-1)))], type := 27, pos := "l92_draw.go:343", after := #[{ on := 13, ground := Ground.gcOnly Departure.lateStores }], guard := none })) rfl (fun K hK => ?_) ?_
            ·
              go_simp
              have hsz : v104.heap.size < (v104.alloc (.cells #[.int .i64 (-10000), .int .i64 9999, .int .i64 1, .int .i64 (-1)] 3)).heap.size := by simp
              have hbe : v104.heap.size = v104.heap.size := by simp
              have F2 : ∀ x, x < 4 → (v104.alloc (.cells #[.int .i64 (-10000), .int .i64 9999, .int .i64 1, .int .i64 (-1)] 3)).cell? ⟨v104.heap.size, x, none⟩ = some (.int .i64 ([-10000, 9999, 1, -1].getD x 0)) := fun x hx => by rw [← hbe, World.cell?_alloc_new]; rcases (show x = 0 ∨ x = 1 ∨ x = 2 ∨ x = 3 by omega) with rfl | rfl | rfl | rfl <;> rfl
              have l2 : v104.heap.size < (v104.alloc (.cells #[.int .i64 (-10000), .int .i64 9999, .int .i64 1, .int .i64 (-1)] 3)).heap.size := by rw [← hbe]; exact hsz
              have n2 : v104.heap.size ≠ B := by rw [← hbe]; exact Nat.ne_of_gt hR.lt
              replace s1 := ((Keep.refl v104).alloc (.cells #[.int .i64 (-10000), .int .i64 9999, .int .i64 1, .int .i64 (-1)] 3)).cell s1
              replace l1 := Nat.lt_trans l1 hsz
              replace hR := hR.alloc (.cells #[.int .i64 (-10000), .int .i64 9999, .int .i64 1, .int .i64 (-1)] 3)
              replace KW := KW.alloc (.cells #[.int .i64 (-10000), .int .i64 9999, .int .i64 1, .int .i64 (-1)] 3)
              clear hsz hbe
              refine hK.out _ _ s1 (fun hHeld => ?_)
              clear hK K
              try simp only [Act.put, List.setIfInBounds_toArray, List.set_cons_zero, List.set_cons_succ]
              obtain ⟨u2, hu2⟩ : ∃ u, [-10000, 9999, 1, -1].getD j2 0 = u := ⟨_, rfl⟩
              have s2 := F2 j2 (by omega)
              rw [hu2] at s2
              clear hu2 F2
              refine wpAnyH_mono (S2 := fun w' => w'.cell? ⟨v94.heap.size, j1, none⟩ = some (.int .i64 u1) ∧ w'.cell? ⟨v104.heap.size, j2, none⟩ = some (.int .i64 u2)) (fun _ h => h.1) _ _ _ _ ?_
              have hHeld : (fun w' => w'.cell? ⟨v94.heap.size, j1, none⟩ = some (.int .i64 u1) ∧ w'.cell? ⟨v104.heap.size, j2, none⟩ = some (.int .i64 u2)) (v104.alloc (.cells #[.int .i64 (-10000), .int .i64 9999, .int .i64 1, .int .i64 (-1)] 3)) := ⟨s1, s2⟩
              refine wpAnyH_take (i := 8) (oi := ({ dst := some 27, op := Op.indexAddr 27 (Operand.tmp 24) (Operand.tmp 26), type := 0, pos := "l92_draw.go:343", after := #[{ on := 5, ground := Ground.data }, { on := 7, ground := Ground.data }, { on := 13, ground := Ground.gcOnly Departure.lateStores }], guard := none })) (v := ?v107) rfl (by kernel_rfl) (by kernel_rfl) (by kernel_rfl) (fun _ _ _ h => h) (Or.inl ⟨by rfl, ?hy107⟩) hHeld ?rest107
              case hy107 => (intro w' hSw; (try dsimp only at hSw); go_split_ands; go_simp; try with_reducible rfl)
              try simp only [Act.put, List.setIfInBounds_toArray, List.set_cons_zero, List.set_cons_succ]
              refine wpAnyH_take (i := 9) (oi := ({ dst := some 28, op := Op.load 3 (Operand.tmp 27), type := 3, pos := "l92_draw.go:343", after := #[{ on := 8, ground := Ground.data }, { on := 13, ground := Ground.gcOnly Departure.lateStores }], guard := none })) (v := ?v108) rfl (by kernel_rfl) (by kernel_rfl) (by kernel_rfl) (fun _ _ _ h => h) (Or.inl ⟨by rfl, ?hy108⟩) hHeld ?rest108
              case hy108 => (intro w' hSw; (try dsimp only at hSw); go_split_ands; go_simp; try with_reducible rfl)
              try simp only [Act.put, List.setIfInBounds_toArray, List.set_cons_zero, List.set_cons_succ]
              refine wpAnyH_take (i := 14) (oi := ({ dst := some 3, op := Op.assign (Operand.tmp 28), type := 3, pos := "l92_draw.go:343", after := #[{ on := 9, ground := Ground.data }, { on := 13, ground := Ground.chain }, { on := 0, ground := Ground.phase }, { on := 1, ground := Ground.phase }, { on := 2, ground := Ground.phase }, { on := 3, ground := Ground.phase }, { on := 4, ground := Ground.phase }, { on := 5, ground := Ground.phase }, { on := 6, ground := Ground.phase }, { on := 7, ground := Ground.phase }, { on := 8, ground := Ground.phase }, { on := 9, ground := Ground.phase }, { on := 10, ground := Ground.textOnly Departure.lateStores }, { on := 11, ground := Ground.textOnly Departure.lateStoresUnsure }, { on := 12, ground := Ground.textOnly Departure.lateStores }, { on := 13, ground := Ground.phase }], guard := none })) (v := ?v109) rfl (by kernel_rfl) (by kernel_rfl) (by kernel_rfl) (fun _ _ _ h => h) (Or.inl ⟨by rfl, ?hy109⟩) hHeld ?rest109
              case hy109 => (intro w' hSw; (try dsimp only at hSw); go_split_ands; go_simp; try with_reducible rfl)
              try simp only [Act.put, List.setIfInBounds_toArray, List.set_cons_zero, List.set_cons_succ]
              refine wpAnyH_take (i := 15) (oi := ({ dst := some 4, op := Op.assign (Operand.tmp 31), type := 3, pos := "l92_draw.go:343", after := #[{ on := 12, ground := Ground.data }, { on := 14, ground := Ground.chain }, { on := 0, ground := Ground.phase }, { on := 1, ground := Ground.phase }, { on := 2, ground := Ground.phase }, { on := 3, ground := Ground.phase }, { on := 4, ground := Ground.phase }, { on := 5, ground := Ground.phase }, { on := 6, ground := Ground.phase }, { on := 7, ground := Ground.phase }, { on := 8, ground := Ground.phase }, { on := 9, ground := Ground.phase }, { on := 10, ground := Ground.phase }, { on := 11, ground := Ground.phase }, { on := 12, ground := Ground.phase }, { on := 13, ground := Ground.phase }, { on := 14, ground := Ground.phase }], guard := none })) (v := ?v110) rfl (by kernel_rfl) (by kernel_rfl) (by kernel_rfl) (fun _ _ _ h => h) (Or.inl ⟨by rfl, ?hy110⟩) hHeld ?rest110
              case hy110 => (intro w' hSw; (try dsimp only at hSw); go_split_ands; go_simp; try with_reducible rfl)
              try simp only [Act.put, List.setIfInBounds_toArray, List.set_cons_zero, List.set_cons_succ]
              refine wpAnyH_done (by kernel_rfl) ?_ _
              clear hR s1 s2 l1 l2 n1 n2
              go_wp2
              go_ret3
              exact ⟨⟨_, _, _, rfl⟩, KW⟩
            exact AllReadyH.nil
          exact AllReadyH.nil
        refine AllReadyH.cons (o := ({ dst := some 24, op := Op.buildSlice 27 4 #[(0, Operand.const (Value.int IntKind.i64 (-10000))), (1, Operand.const (Value.int IntKind.i64 9999)), (2, Operand.const (Value.int IntKind.i64 1)), (3, Operand.const (Value.int IntKind.i64 (-1)))], type := 27, pos := "l92_draw.go:343", after := #[{ on := 13, ground := Ground.gcOnly Departure.lateStores }], guard := none })) rfl (fun K hK => ?_) ?_
        ·
          go_simp
          have hsz : v94.heap.size < (v94.alloc (.cells #[.int .i64 (-10000), .int .i64 9999, .int .i64 1, .int .i64 (-1)] 3)).heap.size := by simp
          have hbe : v94.heap.size = v94.heap.size := by simp
          have F2 : ∀ x, x < 4 → (v94.alloc (.cells #[.int .i64 (-10000), .int .i64 9999, .int .i64 1, .int .i64 (-1)] 3)).cell? ⟨v94.heap.size, x, none⟩ = some (.int .i64 ([-10000, 9999, 1, -1].getD x 0)) := fun x hx => by rw [← hbe, World.cell?_alloc_new]; rcases (show x = 0 ∨ x = 1 ∨ x = 2 ∨ x = 3 by omega) with rfl | rfl | rfl | rfl <;> rfl
          have l2 : v94.heap.size < (v94.alloc (.cells #[.int .i64 (-10000), .int .i64 9999, .int .i64 1, .int .i64 (-1)] 3)).heap.size := by rw [← hbe]; exact hsz
          have n2 : v94.heap.size ≠ B := by rw [← hbe]; exact Nat.ne_of_gt hR.lt
          replace hR := hR.alloc (.cells #[.int .i64 (-10000), .int .i64 9999, .int .i64 1, .int .i64 (-1)] 3)
          replace KW := KW.alloc (.cells #[.int .i64 (-10000), .int .i64 9999, .int .i64 1, .int .i64 (-1)] 3)
          clear hsz hbe
          refine hK.out _ _ trivial (fun hHeld => ?_)
          clear hK K
          try simp only [Act.put, List.setIfInBounds_toArray, List.set_cons_zero, List.set_cons_succ]
          obtain ⟨u2, hu2⟩ : ∃ u, [-10000, 9999, 1, -1].getD j2 0 = u := ⟨_, rfl⟩
          have s2 := F2 j2 (by omega)
          rw [hu2] at s2
          clear hu2 F2
          refine wpAnyH_mono (S2 := fun w' => w'.cell? ⟨v94.heap.size, j2, none⟩ = some (.int .i64 u2)) (fun _ h => trivial) _ _ _ _ ?_
          have hHeld : (fun w' => w'.cell? ⟨v94.heap.size, j2, none⟩ = some (.int .i64 u2)) (v94.alloc (.cells #[.int .i64 (-10000), .int .i64 9999, .int .i64 1, .int .i64 (-1)] 3)) := s2
          refine wpAnyH_take (i := 8) (oi := ({ dst := some 27, op := Op.indexAddr 27 (Operand.tmp 24) (Operand.tmp 26), type := 0, pos := "l92_draw.go:343", after := #[{ on := 5, ground := Ground.data }, { on := 7, ground := Ground.data }, { on := 13, ground := Ground.gcOnly Departure.lateStores }], guard := none })) (v := ?v111) rfl (by kernel_rfl) (by kernel_rfl) (by kernel_rfl) (fun _ _ _ h => h) (Or.inl ⟨by rfl, ?hy111⟩) hHeld ?rest111
          case hy111 => (intro w' hSw; (try dsimp only at hSw); go_split_ands; go_simp; try with_reducible rfl)
          try simp only [Act.put, List.setIfInBounds_toArray, List.set_cons_zero, List.set_cons_succ]
          refine wpAnyH_take (i := 9) (oi := ({ dst := some 28, op := Op.load 3 (Operand.tmp 27), type := 3, pos := "l92_draw.go:343", after := #[{ on := 8, ground := Ground.data }, { on := 13, ground := Ground.gcOnly Departure.lateStores }], guard := none })) (v := ?v112) rfl (by kernel_rfl) (by kernel_rfl) (by kernel_rfl) (fun _ _ _ h => h) (Or.inl ⟨by rfl, ?hy112⟩) hHeld ?rest112
          case hy112 => (intro w' hSw; (try dsimp only at hSw); go_split_ands; go_simp; try with_reducible rfl)
          try simp only [Act.put, List.setIfInBounds_toArray, List.set_cons_zero, List.set_cons_succ]
          refine wpAnyH_ready (rs := [0, 11]) (by kernel_rfl) (by simp) ?_
          refine AllReadyH.cons (o := ({ dst := some 19, op := Op.buildSlice 27 3 #[(0, Operand.const (Value.int IntKind.i64 (-1000))), (1, Operand.const (Value.int IntKind.i64 (-999))), (2, Operand.const (Value.int IntKind.i64 10999))], type := 27, pos := "l92_draw.go:343", after := #[], guard := none })) rfl (fun K hK => ?_) ?_
          ·
            go_simp
            have hsz : (v94.alloc (.cells #[.int .i64 (-10000), .int .i64 9999, .int .i64 1, .int .i64 (-1)] 3)).heap.size < ((v94.alloc (.cells #[.int .i64 (-10000), .int .i64 9999, .int .i64 1, .int .i64 (-1)] 3)).alloc (.cells #[.int .i64 (-1000), .int .i64 (-999), .int .i64 10999] 3)).heap.size := by simp
            have hbe : (v94.alloc (.cells #[.int .i64 (-10000), .int .i64 9999, .int .i64 1, .int .i64 (-1)] 3)).heap.size = v94.heap.size + 1 := by simp
            have F1 : ∀ x, x < 3 → ((v94.alloc (.cells #[.int .i64 (-10000), .int .i64 9999, .int .i64 1, .int .i64 (-1)] 3)).alloc (.cells #[.int .i64 (-1000), .int .i64 (-999), .int .i64 10999] 3)).cell? ⟨v94.heap.size + 1, x, none⟩ = some (.int .i64 ([-1000, -999, 10999].getD x 0)) := fun x hx => by rw [← hbe, World.cell?_alloc_new]; rcases (show x = 0 ∨ x = 1 ∨ x = 2 by omega) with rfl | rfl | rfl <;> rfl
            have l1 : v94.heap.size + 1 < ((v94.alloc (.cells #[.int .i64 (-10000), .int .i64 9999, .int .i64 1, .int .i64 (-1)] 3)).alloc (.cells #[.int .i64 (-1000), .int .i64 (-999), .int .i64 10999] 3)).heap.size := by rw [← hbe]; exact hsz
            have n1 : v94.heap.size + 1 ≠ B := by rw [← hbe]; exact Nat.ne_of_gt hR.lt
            replace s2 := ((Keep.refl (v94.alloc (.cells #[.int .i64 (-10000), .int .i64 9999, .int .i64 1, .int .i64 (-1)] 3))).alloc (.cells #[.int .i64 (-1000), .int .i64 (-999), .int .i64 10999] 3)).cell s2
            replace l2 := Nat.lt_trans l2 hsz
            replace hR := hR.alloc (.cells #[.int .i64 (-1000), .int .i64 (-999), .int .i64 10999] 3)
            replace KW := KW.alloc (.cells #[.int .i64 (-1000), .int .i64 (-999), .int .i64 10999] 3)
            clear hsz hbe
            refine hK.out _ _ s2 (fun hHeld => ?_)
            clear hK K
            try simp only [Act.put, List.setIfInBounds_toArray, List.set_cons_zero, List.set_cons_succ]
            obtain ⟨u1, hu1⟩ : ∃ u, [-1000, -999, 10999].getD j1 0 = u := ⟨_, rfl⟩
            have s1 := F1 j1 (by omega)
            rw [hu1] at s1
            clear hu1 F1
            refine wpAnyH_mono (S2 := fun w' => w'.cell? ⟨v94.heap.size + 1, j1, none⟩ = some (.int .i64 u1) ∧ w'.cell? ⟨v94.heap.size, j2, none⟩ = some (.int .i64 u2)) (fun _ h => h.2) _ _ _ _ ?_
            have hHeld : (fun w' => w'.cell? ⟨v94.heap.size + 1, j1, none⟩ = some (.int .i64 u1) ∧ w'.cell? ⟨v94.heap.size, j2, none⟩ = some (.int .i64 u2)) ((v94.alloc (.cells #[.int .i64 (-10000), .int .i64 9999, .int .i64 1, .int .i64 (-1)] 3)).alloc (.cells #[.int .i64 (-1000), .int .i64 (-999), .int .i64 10999] 3)) := ⟨s1, s2⟩
            refine wpAnyH_take (i := 3) (oi := ({ dst := some 22, op := Op.indexAddr 27 (Operand.tmp 19) (Operand.tmp 21), type := 0, pos := "l92_draw.go:343", after := #[{ on := 0, ground := Ground.data }, { on := 2, ground := Ground.data }], guard := none })) (v := ?v113) rfl (by kernel_rfl) (by kernel_rfl) (by kernel_rfl) (fun _ _ _ h => h) (Or.inl ⟨by rfl, ?hy113⟩) hHeld ?rest113
            case hy113 => (intro w' hSw; (try dsimp only at hSw); go_split_ands; go_simp; try with_reducible rfl)
            try simp only [Act.put, List.setIfInBounds_toArray, List.set_cons_zero, List.set_cons_succ]
            refine wpAnyH_take (i := 4) (oi := ({ dst := some 23, op := Op.load 3 (Operand.tmp 22), type := 3, pos := "l92_draw.go:343", after := #[{ on := 3, ground := Ground.data }], guard := none })) (v := ?v114) rfl (by kernel_rfl) (by kernel_rfl) (by kernel_rfl) (fun _ _ _ h => h) (Or.inl ⟨by rfl, ?hy114⟩) hHeld ?rest114
            case hy114 => (intro w' hSw; (try dsimp only at hSw); go_split_ands; go_simp; try with_reducible rfl)
            try simp only [Act.put, List.setIfInBounds_toArray, List.set_cons_zero, List.set_cons_succ]
            refine wpAnyH_ready (rs := [11]) (by kernel_rfl) (by simp) ?_
            refine AllReadyH.cons (o := ({ dst := some 30, op := Op.call { callee := Callee.value (Operand.func 75), args := #[Operand.tmp 29, Operand.const (Value.int IntKind.i64 3)], argTypes := #[80, 3] }, type := 3, pos := "l92_draw.go:343", after := #[{ on := 10, ground := Ground.data }, { on := 7, ground := Ground.chain }], guard := none })) rfl (fun K hK => ?_) ?_
            ·
              go_simp
              refine (pick_any B 5 3 _ (by omega) (by omega) hR).mono ?_
              rintro e v115 ⟨i115, rfl, i0115, i1115, hRn, hon, _⟩
              obtain ⟨j3, rfl⟩ := Int.eq_ofNat_of_zero_le i0115
              replace s1 := (hon.cell (v94.heap.size + 1) j1 l1 n1).trans s1
              replace l1 := Nat.lt_of_lt_of_le l1 hon.size
              replace s2 := (hon.cell (v94.heap.size) j2 l2 n2).trans s2
              replace l2 := Nat.lt_of_lt_of_le l2 hon.size
              replace KW := Only.keep hon KW (by omega)
              replace hR := hRn
              clear hRn hon
              go_simp
              refine hK.out _ _ ⟨s1, s2⟩ (fun hHeld => ?_)
              clear hK K
              try simp only [Act.put, List.setIfInBounds_toArray, List.set_cons_zero, List.set_cons_succ]
              refine wpAnyH_take (i := 12) (oi := ({ dst := some 31, op := Op.binOp BinOp.mul 3 (Operand.tmp 30) (Operand.const (Value.int IntKind.i64 6)) 3, type := 3, pos := "l92_draw.go:343", after := #[{ on := 11, ground := Ground.data }, { on := 14, ground := Ground.gcOnly Departure.lateStores }], guard := none })) (v := ?v116) rfl (by kernel_rfl) (by kernel_rfl) (by kernel_rfl) (fun _ _ _ h => h) (Or.inl ⟨by rfl, ?hy116⟩) hHeld ?rest116
              case hy116 => (intro w' hSw; (try dsimp only at hSw); go_split_ands; go_simp; try with_reducible rfl)
              try simp only [Act.put, List.setIfInBounds_toArray, List.set_cons_zero, List.set_cons_succ]
              refine wpAnyH_take (i := 13) (oi := ({ dst := some 2, op := Op.assign (Operand.tmp 23), type := 3, pos := "l92_draw.go:343", after := #[{ on := 4, ground := Ground.data }, { on := 11, ground := Ground.chain }, { on := 0, ground := Ground.phase }, { on := 1, ground := Ground.phase }, { on := 2, ground := Ground.phase }, { on := 3, ground := Ground.phase }, { on := 4, ground := Ground.phase }, { on := 5, ground := Ground.textOnly Departure.lateStores }, { on := 6, ground := Ground.textOnly Departure.lateStores }, { on := 7, ground := Ground.textOnly Departure.lateStoresUnsure }, { on := 8, ground := Ground.textOnly Departure.lateStores }, { on := 9, ground := Ground.textOnly Departure.lateStores }, { on := 10, ground := Ground.textOnly Departure.lateStores }, { on := 11, ground := Ground.textOnly Departure.lateStoresUnsure }, { on := 12, ground := Ground.textOnly Departure.lateStores }], guard := none })) (v := ?v117) rfl (by kernel_rfl) (by kernel_rfl) (by kernel_rfl) (fun _ _ _ h => h) (Or.inl ⟨by rfl, ?hy117⟩) hHeld ?rest117
              case hy117 => (intro w' hSw; (try dsimp only at hSw); go_split_ands; go_simp; try with_reducible rfl)
              try simp only [Act.put, List.setIfInBounds_toArray, List.set_cons_zero, List.set_cons_succ]
              refine wpAnyH_take (i := 14) (oi := ({ dst := some 3, op := Op.assign (Operand.tmp 28), type := 3, pos := "l92_draw.go:343", after := #[{ on := 9, ground := Ground.data }, { on := 13, ground := Ground.chain }, { on := 0, ground := Ground.phase }, { on := 1, ground := Ground.phase }, { on := 2, ground := Ground.phase }, { on := 3, ground := Ground.phase }, { on := 4, ground := Ground.phase }, { on := 5, ground := Ground.phase }, { on := 6, ground := Ground.phase }, { on := 7, ground := Ground.phase }, { on := 8, ground := Ground.phase }, { on := 9, ground := Ground.phase }, { on := 10, ground := Ground.textOnly Departure.lateStores }, { on := 11, ground := Ground.textOnly Departure.lateStoresUnsure }, { on := 12, ground := Ground.textOnly Departure.lateStores }, { on := 13, ground := Ground.phase }], guard := none })) (v := ?v118) rfl (by kernel_rfl) (by kernel_rfl) (by kernel_rfl) (fun _ _ _ h => h) (Or.inl ⟨by rfl, ?hy118⟩) hHeld ?rest118
              case hy118 => (intro w' hSw; (try dsimp only at hSw); go_split_ands; go_simp; try with_reducible rfl)
              try simp only [Act.put, List.setIfInBounds_toArray, List.set_cons_zero, List.set_cons_succ]
              refine wpAnyH_take (i := 15) (oi := ({ dst := some 4, op := Op.assign (Operand.tmp 31), type := 3, pos := "l92_draw.go:343", after := #[{ on := 12, ground := Ground.data }, { on := 14, ground := Ground.chain }, { on := 0, ground := Ground.phase }, { on := 1, ground := Ground.phase }, { on := 2, ground := Ground.phase }, { on := 3, ground := Ground.phase }, { on := 4, ground := Ground.phase }, { on := 5, ground := Ground.phase }, { on := 6, ground := Ground.phase }, { on := 7, ground := Ground.phase }, { on := 8, ground := Ground.phase }, { on := 9, ground := Ground.phase }, { on := 10, ground := Ground.phase }, { on := 11, ground := Ground.phase }, { on := 12, ground := Ground.phase }, { on := 13, ground := Ground.phase }, { on := 14, ground := Ground.phase }], guard := none })) (v := ?v119) rfl (by kernel_rfl) (by kernel_rfl) (by kernel_rfl) (fun _ _ _ h => h) (Or.inl ⟨by rfl, ?hy119⟩) hHeld ?rest119
              case hy119 => (intro w' hSw; (try dsimp only at hSw); go_split_ands; go_simp; try with_reducible rfl)
              try simp only [Act.put, List.setIfInBounds_toArray, List.set_cons_zero, List.set_cons_succ]
              refine wpAnyH_done (by kernel_rfl) ?_ _
              clear hR s1 s2 l1 l2 n1 n2
              go_wp2
              go_ret3
              exact ⟨⟨_, _, _, rfl⟩, KW⟩
            exact AllReadyH.nil
          refine AllReadyH.cons (o := ({ dst := some 30, op := Op.call { callee := Callee.value (Operand.func 75), args := #[Operand.tmp 29, Operand.const (Value.int IntKind.i64 3)], argTypes := #[80, 3] }, type := 3, pos := "l92_draw.go:343", after := #[{ on := 10, ground := Ground.data }, { on := 7, ground := Ground.chain }], guard := none })) rfl (fun K hK => ?_) ?_
          ·
            go_simp
            refine (pick_any B 5 3 _ (by omega) (by omega) hR).mono ?_
            rintro e v120 ⟨i120, rfl, i0120, i1120, hRn, hon, _⟩
            obtain ⟨j3, rfl⟩ := Int.eq_ofNat_of_zero_le i0120
            replace s2 := (hon.cell (v94.heap.size) j2 l2 n2).trans s2
            replace l2 := Nat.lt_of_lt_of_le l2 hon.size
            replace KW := Only.keep hon KW (by omega)
            replace hR := hRn
            clear hRn hon
            go_simp
            refine hK.out _ _ s2 (fun hHeld => ?_)
            clear hK K
            try simp only [Act.put, List.setIfInBounds_toArray, List.set_cons_zero, List.set_cons_succ]
            refine wpAnyH_take (i := 12) (oi := ({ dst := some 31, op := Op.binOp BinOp.mul 3 (Operand.tmp 30) (Operand.const (Value.int IntKind.i64 6)) 3, type := 3, pos := "l92_draw.go:343", after := #[{ on := 11, ground := Ground.data }, { on := 14, ground := Ground.gcOnly Departure.lateStores }], guard := none })) (v := ?v121) rfl (by kernel_rfl) (by kernel_rfl) (by kernel_rfl) (fun _ _ _ h => h) (Or.inl ⟨by rfl, ?hy121⟩) hHeld ?rest121
            case hy121 => (intro w' hSw; (try dsimp only at hSw); go_split_ands; go_simp; try with_reducible rfl)
            try simp only [Act.put, List.setIfInBounds_toArray, List.set_cons_zero, List.set_cons_succ]
            refine wpAnyH_ready (rs := [0]) (by kernel_rfl) (by simp) ?_
            refine AllReadyH.cons (o := ({ dst := some 19, op := Op.buildSlice 27 3 #[(0, Operand.const (Value.int IntKind.i64 (-1000))), (1, Operand.const (Value.int IntKind.i64 (-999))), (2, Operand.const (Value.int IntKind.i64 10999))], type := 27, pos := "l92_draw.go:343", after := #[], guard := none })) rfl (fun K hK => ?_) ?_
            ·
              go_simp
              have hsz : v120.heap.size < (v120.alloc (.cells #[.int .i64 (-1000), .int .i64 (-999), .int .i64 10999] 3)).heap.size := by simp
              have hbe : v120.heap.size = v120.heap.size := by simp
              have F1 : ∀ x, x < 3 → (v120.alloc (.cells #[.int .i64 (-1000), .int .i64 (-999), .int .i64 10999] 3)).cell? ⟨v120.heap.size, x, none⟩ = some (.int .i64 ([-1000, -999, 10999].getD x 0)) := fun x hx => by rw [← hbe, World.cell?_alloc_new]; rcases (show x = 0 ∨ x = 1 ∨ x = 2 by omega) with rfl | rfl | rfl <;> rfl
              have l1 : v120.heap.size < (v120.alloc (.cells #[.int .i64 (-1000), .int .i64 (-999), .int .i64 10999] 3)).heap.size := by rw [← hbe]; exact hsz
              have n1 : v120.heap.size ≠ B := by rw [← hbe]; exact Nat.ne_of_gt hR.lt
              replace s2 := ((Keep.refl v120).alloc (.cells #[.int .i64 (-1000), .int .i64 (-999), .int .i64 10999] 3)).cell s2
              replace l2 := Nat.lt_trans l2 hsz
              replace hR := hR.alloc (.cells #[.int .i64 (-1000), .int .i64 (-999), .int .i64 10999] 3)
              replace KW := KW.alloc (.cells #[.int .i64 (-1000), .int .i64 (-999), .int .i64 10999] 3)
              clear hsz hbe
              refine hK.out _ _ s2 (fun hHeld => ?_)
              clear hK K
              try simp only [Act.put, List.setIfInBounds_toArray, List.set_cons_zero, List.set_cons_succ]
              obtain ⟨u1, hu1⟩ : ∃ u, [-1000, -999, 10999].getD j1 0 = u := ⟨_, rfl⟩
              have s1 := F1 j1 (by omega)
              rw [hu1] at s1
              clear hu1 F1
              refine wpAnyH_mono (S2 := fun w' => w'.cell? ⟨v120.heap.size, j1, none⟩ = some (.int .i64 u1) ∧ w'.cell? ⟨v94.heap.size, j2, none⟩ = some (.int .i64 u2)) (fun _ h => h.2) _ _ _ _ ?_
              have hHeld : (fun w' => w'.cell? ⟨v120.heap.size, j1, none⟩ = some (.int .i64 u1) ∧ w'.cell? ⟨v94.heap.size, j2, none⟩ = some (.int .i64 u2)) (v120.alloc (.cells #[.int .i64 (-1000), .int .i64 (-999), .int .i64 10999] 3)) := ⟨s1, s2⟩
              refine wpAnyH_take (i := 3) (oi := ({ dst := some 22, op := Op.indexAddr 27 (Operand.tmp 19) (Operand.tmp 21), type := 0, pos := "l92_draw.go:343", after := #[{ on := 0, ground := Ground.data }, { on := 2, ground := Ground.data }], guard := none })) (v := ?v122) rfl (by kernel_rfl) (by kernel_rfl) (by kernel_rfl) (fun _ _ _ h => h) (Or.inl ⟨by rfl, ?hy122⟩) hHeld ?rest122
              case hy122 => (intro w' hSw; (try dsimp only at hSw); go_split_ands; go_simp; try with_reducible rfl)
              try simp only [Act.put, List.setIfInBounds_toArray, List.set_cons_zero, List.set_cons_succ]
              refine wpAnyH_take (i := 4) (oi := ({ dst := some 23, op := Op.load 3 (Operand.tmp 22), type := 3, pos := "l92_draw.go:343", after := #[{ on := 3, ground := Ground.data }], guard := none })) (v := ?v123) rfl (by kernel_rfl) (by kernel_rfl) (by kernel_rfl) (fun _ _ _ h => h) (Or.inl ⟨by rfl, ?hy123⟩) hHeld ?rest123
              case hy123 => (intro w' hSw; (try dsimp only at hSw); go_split_ands; go_simp; try with_reducible rfl)
              try simp only [Act.put, List.setIfInBounds_toArray, List.set_cons_zero, List.set_cons_succ]
              refine wpAnyH_take (i := 13) (oi := ({ dst := some 2, op := Op.assign (Operand.tmp 23), type := 3, pos := "l92_draw.go:343", after := #[{ on := 4, ground := Ground.data }, { on := 11, ground := Ground.chain }, { on := 0, ground := Ground.phase }, { on := 1, ground := Ground.phase }, { on := 2, ground := Ground.phase }, { on := 3, ground := Ground.phase }, { on := 4, ground := Ground.phase }, { on := 5, ground := Ground.textOnly Departure.lateStores }, { on := 6, ground := Ground.textOnly Departure.lateStores }, { on := 7, ground := Ground.textOnly Departure.lateStoresUnsure }, { on := 8, ground := Ground.textOnly Departure.lateStores }, { on := 9, ground := Ground.textOnly Departure.lateStores }, { on := 10, ground := Ground.textOnly Departure.lateStores }, { on := 11, ground := Ground.textOnly Departure.lateStoresUnsure }, { on := 12, ground := Ground.textOnly Departure.lateStores }], guard := none })) (v := ?v124) rfl (by kernel_rfl) (by kernel_rfl) (by kernel_rfl) (fun _ _ _ h => h) (Or.inl ⟨by rfl, ?hy124⟩) hHeld ?rest124
              case hy124 => (intro w' hSw; (try dsimp only at hSw); go_split_ands; go_simp; try with_reducible rfl)
              try simp only [Act.put, List.setIfInBounds_toArray, List.set_cons_zero, List.set_cons_succ]
              refine wpAnyH_take (i := 14) (oi := ({ dst := some 3, op := Op.assign (Operand.tmp 28), type := 3, pos := "l92_draw.go:343", after := #[{ on := 9, ground := Ground.data }, { on := 13, ground := Ground.chain }, { on := 0, ground := Ground.phase }, { on := 1, ground := Ground.phase }, { on := 2, ground := Ground.phase }, { on := 3, ground := Ground.phase }, { on := 4, ground := Ground.phase }, { on := 5, ground := Ground.phase }, { on := 6, ground := Ground.phase }, { on := 7, ground := Ground.phase }, { on := 8, ground := Ground.phase }, { on := 9, ground := Ground.phase }, { on := 10, ground := Ground.textOnly Departure.lateStores }, { on := 11, ground := Ground.textOnly Departure.lateStoresUnsure }, { on := 12, ground := Ground.textOnly Departure.lateStores }, { on := 13, ground := Ground.phase }], guard := none })) (v := ?v125) rfl (by kernel_rfl) (by kernel_rfl) (by kernel_rfl) (fun _ _ _ h => h) (Or.inl ⟨by rfl, ?hy125⟩) hHeld ?rest125
              case hy125 => (intro w' hSw; (try dsimp only at hSw); go_split_ands; go_simp; try with_reducible rfl)
              try simp only [Act.put, List.setIfInBounds_toArray, List.set_cons_zero, List.set_cons_succ]
              refine wpAnyH_take (i := 15) (oi := ({ dst := some 4, op := Op.assign (Operand.tmp 31), type := 3, pos := "l92_draw.go:343", after := #[{ on := 12, ground := Ground.data }, { on := 14, ground := Ground.chain }, { on := 0, ground := Ground.phase }, { on := 1, ground := Ground.phase }, { on := 2, ground := Ground.phase }, { on := 3, ground := Ground.phase }, { on := 4, ground := Ground.phase }, { on := 5, ground := Ground.phase }, { on := 6, ground := Ground.phase }, { on := 7, ground := Ground.phase }, { on := 8, ground := Ground.phase }, { on := 9, ground := Ground.phase }, { on := 10, ground := Ground.phase }, { on := 11, ground := Ground.phase }, { on := 12, ground := Ground.phase }, { on := 13, ground := Ground.phase }, { on := 14, ground := Ground.phase }], guard := none })) (v := ?v126) rfl (by kernel_rfl) (by kernel_rfl) (by kernel_rfl) (fun _ _ _ h => h) (Or.inl ⟨by rfl, ?hy126⟩) hHeld ?rest126
              case hy126 => (intro w' hSw; (try dsimp only at hSw); go_split_ands; go_simp; try with_reducible rfl)
              try simp only [Act.put, List.setIfInBounds_toArray, List.set_cons_zero, List.set_cons_succ]
              refine wpAnyH_done (by kernel_rfl) ?_ _
              clear hR s1 s2 l1 l2 n1 n2
              go_wp2
              go_ret3
              exact ⟨⟨_, _, _, rfl⟩, KW⟩
            exact AllReadyH.nil
          exact AllReadyH.nil
        refine AllReadyH.cons (o := ({ dst := some 30, op := Op.call { callee := Callee.value (Operand.func 75), args := #[Operand.tmp 29, Operand.const (Value.int IntKind.i64 3)], argTypes := #[80, 3] }, type := 3, pos := "l92_draw.go:343", after := #[{ on := 10, ground := Ground.data }, { on := 7, ground := Ground.chain }], guard := none })) rfl (fun K hK => ?_) ?_
        ·
          go_simp
          refine (pick_any B 5 3 _ (by omega) (by omega) hR).mono ?_
          rintro e v127 ⟨i127, rfl, i0127, i1127, hRn, hon, _⟩
          obtain ⟨j3, rfl⟩ := Int.eq_ofNat_of_zero_le i0127
          replace KW := Only.keep hon KW (by omega)
          replace hR := hRn
          clear hRn hon
          go_simp
          refine hK.out _ _ trivial (fun hHeld => ?_)
          clear hK K
          try simp only [Act.put, List.setIfInBounds_toArray, List.set_cons_zero, List.set_cons_succ]
          refine wpAnyH_take (i := 12) (oi := ({ dst := some 31, op := Op.binOp BinOp.mul 3 (Operand.tmp 30) (Operand.const (Value.int IntKind.i64 6)) 3, type := 3, pos := "l92_draw.go:343", after := #[{ on := 11, ground := Ground.data }, { on := 14, ground := Ground.gcOnly Departure.lateStores }], guard := none })) (v := ?v128) rfl (by kernel_rfl) (by kernel_rfl) (by kernel_rfl) (fun _ _ _ h => h) (Or.inl ⟨by rfl, ?hy128⟩) hHeld ?rest128
          case hy128 => (intro w' hSw; (try dsimp only at hSw); go_split_ands; go_simp; try with_reducible rfl)
          try simp only [Act.put, List.setIfInBounds_toArray, List.set_cons_zero, List.set_cons_succ]
          refine wpAnyH_ready (rs := [0, 5]) (by kernel_rfl) (by simp) ?_
          refine AllReadyH.cons (o := ({ dst := some 19, op := Op.buildSlice 27 3 #[(0, Operand.const (Value.int IntKind.i64 (-1000))), (1, Operand.const (Value.int IntKind.i64 (-999))), (2, Operand.const (Value.int IntKind.i64 10999))], type := 27, pos := "l92_draw.go:343", after := #[], guard := none })) rfl (fun K hK => ?_) ?_
          ·
            go_simp
            have hsz : v127.heap.size < (v127.alloc (.cells #[.int .i64 (-1000), .int .i64 (-999), .int .i64 10999] 3)).heap.size := by simp
            have hbe : v127.heap.size = v127.heap.size := by simp
            have F1 : ∀ x, x < 3 → (v127.alloc (.cells #[.int .i64 (-1000), .int .i64 (-999), .int .i64 10999] 3)).cell? ⟨v127.heap.size, x, none⟩ = some (.int .i64 ([-1000, -999, 10999].getD x 0)) := fun x hx => by rw [← hbe, World.cell?_alloc_new]; rcases (show x = 0 ∨ x = 1 ∨ x = 2 by omega) with rfl | rfl | rfl <;> rfl
            have l1 : v127.heap.size < (v127.alloc (.cells #[.int .i64 (-1000), .int .i64 (-999), .int .i64 10999] 3)).heap.size := by rw [← hbe]; exact hsz
            have n1 : v127.heap.size ≠ B := by rw [← hbe]; exact Nat.ne_of_gt hR.lt
            replace hR := hR.alloc (.cells #[.int .i64 (-1000), .int .i64 (-999), .int .i64 10999] 3)
            replace KW := KW.alloc (.cells #[.int .i64 (-1000), .int .i64 (-999), .int .i64 10999] 3)
            clear hsz hbe
            refine hK.out _ _ trivial (fun hHeld => ?_)
            clear hK K
            try simp only [Act.put, List.setIfInBounds_toArray, List.set_cons_zero, List.set_cons_succ]
            obtain ⟨u1, hu1⟩ : ∃ u, [-1000, -999, 10999].getD j1 0 = u := ⟨_, rfl⟩
            have s1 := F1 j1 (by omega)
            rw [hu1] at s1
            clear hu1 F1
            refine wpAnyH_mono (S2 := fun w' => w'.cell? ⟨v127.heap.size, j1, none⟩ = some (.int .i64 u1)) (fun _ h => trivial) _ _ _ _ ?_
            have hHeld : (fun w' => w'.cell? ⟨v127.heap.size, j1, none⟩ = some (.int .i64 u1)) (v127.alloc (.cells #[.int .i64 (-1000), .int .i64 (-999), .int .i64 10999] 3)) := s1
            refine wpAnyH_take (i := 3) (oi := ({ dst := some 22, op := Op.indexAddr 27 (Operand.tmp 19) (Operand.tmp 21), type := 0, pos := "l92_draw.go:343", after := #[{ on := 0, ground := Ground.data }, { on := 2, ground := Ground.data }], guard := none })) (v := ?v129) rfl (by kernel_rfl) (by kernel_rfl) (by kernel_rfl) (fun _ _ _ h => h) (Or.inl ⟨by rfl, ?hy129⟩) hHeld ?rest129
            case hy129 => (intro w' hSw; (try dsimp only at hSw); go_split_ands; go_simp; try with_reducible rfl)
            try simp only [Act.put, List.setIfInBounds_toArray, List.set_cons_zero, List.set_cons_succ]
            refine wpAnyH_take (i := 4) (oi := ({ dst := some 23, op := Op.load 3 (Operand.tmp 22), type := 3, pos := "l92_draw.go:343", after := #[{ on := 3, ground := Ground.data }], guard := none })) (v := ?v130) rfl (by kernel_rfl) (by kernel_rfl) (by kernel_rfl) (fun _ _ _ h => h) (Or.inl ⟨by rfl, ?hy130⟩) hHeld ?rest130
            case hy130 => (intro w' hSw; (try dsimp only at hSw); go_split_ands; go_simp; try with_reducible rfl)
            try simp only [Act.put, List.setIfInBounds_toArray, List.set_cons_zero, List.set_cons_succ]
            refine wpAnyH_take (i := 13) (oi := ({ dst := some 2, op := Op.assign (Operand.tmp 23), type := 3, pos := "l92_draw.go:343", after := #[{ on := 4, ground := Ground.data }, { on := 11, ground := Ground.chain }, { on := 0, ground := Ground.phase }, { on := 1, ground := Ground.phase }, { on := 2, ground := Ground.phase }, { on := 3, ground := Ground.phase }, { on := 4, ground := Ground.phase }, { on := 5, ground := Ground.textOnly Departure.lateStores }, { on := 6, ground := Ground.textOnly Departure.lateStores }, { on := 7, ground := Ground.textOnly Departure.lateStoresUnsure }, { on := 8, ground := Ground.textOnly Departure.lateStores }, { on := 9, ground := Ground.textOnly Departure.lateStores }, { on := 10, ground := Ground.textOnly Departure.lateStores }, { on := 11, ground := Ground.textOnly Departure.lateStoresUnsure }, { on := 12, ground := Ground.textOnly Departure.lateStores }], guard := none })) (v := ?v131) rfl (by kernel_rfl) (by kernel_rfl) (by kernel_rfl) (fun _ _ _ h => h) (Or.inl ⟨by rfl, ?hy131⟩) hHeld ?rest131
            case hy131 => (intro w' hSw; (try dsimp only at hSw); go_split_ands; go_simp; try with_reducible rfl)
            try simp only [Act.put, List.setIfInBounds_toArray, List.set_cons_zero, List.set_cons_succ]
            refine wpAnyH_ready (rs := [5]) (by kernel_rfl) (by simp) ?_
            refine AllReadyH.cons (o := ({ dst := some 24, op := Op.buildSlice 27 4 #[(0, Operand.const (Value.int IntKind.i64 (-10000))), (1, Operand.const (Value.int IntKind.i64 9999)), (2, Operand.const (Value.int IntKind.i64 1)), (3, Operand.const (Value.int IntKind.i64 (-1)))], type := 27, pos := "l92_draw.go:343", after := #[{ on := 13, ground := Ground.gcOnly Departure.lateStores }], guard := none })) rfl (fun K hK => ?_) ?_
            ·
              go_simp
              have hsz : (v127.alloc (.cells #[.int .i64 (-1000), .int .i64 (-999), .int .i64 10999] 3)).heap.size < ((v127.alloc (.cells #[.int .i64 (-1000), .int .i64 (-999), .int .i64 10999] 3)).alloc (.cells #[.int .i64 (-10000), .int .i64 9999, .int .i64 1, .int .i64 (-1)] 3)).heap.size := by simp
              have hbe : (v127.alloc (.cells #[.int .i64 (-1000), .int .i64 (-999), .int .i64 10999] 3)).heap.size = v127.heap.size + 1 := by simp
              have F2 : ∀ x, x < 4 → ((v127.alloc (.cells #[.int .i64 (-1000), .int .i64 (-999), .int .i64 10999] 3)).alloc (.cells #[.int .i64 (-10000), .int .i64 9999, .int .i64 1, .int .i64 (-1)] 3)).cell? ⟨v127.heap.size + 1, x, none⟩ = some (.int .i64 ([-10000, 9999, 1, -1].getD x 0)) := fun x hx => by rw [← hbe, World.cell?_alloc_new]; rcases (show x = 0 ∨ x = 1 ∨ x = 2 ∨ x = 3 by omega) with rfl | rfl | rfl | rfl <;> rfl
              have l2 : v127.heap.size + 1 < ((v127.alloc (.cells #[.int .i64 (-1000), .int .i64 (-999), .int .i64 10999] 3)).alloc (.cells #[.int .i64 (-10000), .int .i64 9999, .int .i64 1, .int .i64 (-1)] 3)).heap.size := by rw [← hbe]; exact hsz
              have n2 : v127.heap.size + 1 ≠ B := by rw [← hbe]; exact Nat.ne_of_gt hR.lt
              replace s1 := ((Keep.refl (v127.alloc (.cells #[.int .i64 (-1000), .int .i64 (-999), .int .i64 10999] 3))).alloc (.cells #[.int .i64 (-10000), .int .i64 9999, .int .i64 1, .int .i64 (-1)] 3)).cell s1
              replace l1 := Nat.lt_trans l1 hsz
              replace hR := hR.alloc (.cells #[.int .i64 (-10000), .int .i64 9999, .int .i64 1, .int .i64 (-1)] 3)
              replace KW := KW.alloc (.cells #[.int .i64 (-10000), .int .i64 9999, .int .i64 1, .int .i64 (-1)] 3)
              clear hsz hbe
              refine hK.out _ _ s1 (fun hHeld => ?_)
              clear hK K
              try simp only [Act.put, List.setIfInBounds_toArray, List.set_cons_zero, List.set_cons_succ]
              obtain ⟨u2, hu2⟩ : ∃ u, [-10000, 9999, 1, -1].getD j2 0 = u := ⟨_, rfl⟩
              have s2 := F2 j2 (by omega)
              rw [hu2] at s2
              clear hu2 F2
              refine wpAnyH_mono (S2 := fun w' => w'.cell? ⟨v127.heap.size, j1, none⟩ = some (.int .i64 u1) ∧ w'.cell? ⟨v127.heap.size + 1, j2, none⟩ = some (.int .i64 u2)) (fun _ h => h.1) _ _ _ _ ?_
              have hHeld : (fun w' => w'.cell? ⟨v127.heap.size, j1, none⟩ = some (.int .i64 u1) ∧ w'.cell? ⟨v127.heap.size + 1, j2, none⟩ = some (.int .i64 u2)) ((v127.alloc (.cells #[.int .i64 (-1000), .int .i64 (-999), .int .i64 10999] 3)).alloc (.cells #[.int .i64 (-10000), .int .i64 9999, .int .i64 1, .int .i64 (-1)] 3)) := ⟨s1, s2⟩
              refine wpAnyH_take (i := 8) (oi := ({ dst := some 27, op := Op.indexAddr 27 (Operand.tmp 24) (Operand.tmp 26), type := 0, pos := "l92_draw.go:343", after := #[{ on := 5, ground := Ground.data }, { on := 7, ground := Ground.data }, { on := 13, ground := Ground.gcOnly Departure.lateStores }], guard := none })) (v := ?v132) rfl (by kernel_rfl) (by kernel_rfl) (by kernel_rfl) (fun _ _ _ h => h) (Or.inl ⟨by rfl, ?hy132⟩) hHeld ?rest132
              case hy132 => (intro w' hSw; (try dsimp only at hSw); go_split_ands; go_simp; try with_reducible rfl)
              try simp only [Act.put, List.setIfInBounds_toArray, List.set_cons_zero, List.set_cons_succ]
              refine wpAnyH_take (i := 9) (oi := ({ dst := some 28, op := Op.load 3 (Operand.tmp 27), type := 3, pos := "l92_draw.go:343", after := #[{ on := 8, ground := Ground.data }, { on := 13, ground := Ground.gcOnly Departure.lateStores }], guard := none })) (v := ?v133) rfl (by kernel_rfl) (by kernel_rfl) (by kernel_rfl) (fun _ _ _ h => h) (Or.inl ⟨by rfl, ?hy133⟩) hHeld ?rest133
              case hy133 => (intro w' hSw; (try dsimp only at hSw); go_split_ands; go_simp; try with_reducible rfl)
              try simp only [Act.put, List.setIfInBounds_toArray, List.set_cons_zero, List.set_cons_succ]
              refine wpAnyH_take (i := 14) (oi := ({ dst := some 3, op := Op.assign (Operand.tmp 28), type := 3, pos := "l92_draw.go:343", after := #[{ on := 9, ground := Ground.data }, { on := 13, ground := Ground.chain }, { on := 0, ground := Ground.phase }, { on := 1, ground := Ground.phase }, { on := 2, ground := Ground.phase }, { on := 3, ground := Ground.phase }, { on := 4, ground := Ground.phase }, { on := 5, ground := Ground.phase }, { on := 6, ground := Ground.phase }, { on := 7, ground := Ground.phase }, { on := 8, ground := Ground.phase }, { on := 9, ground := Ground.phase }, { on := 10, ground := Ground.textOnly Departure.lateStores }, { on := 11, ground := Ground.textOnly Departure.lateStoresUnsure }, { on := 12, ground := Ground.textOnly Departure.lateStores }, { on := 13, ground := Ground.phase }], guard := none })) (v := ?v134) rfl (by kernel_rfl) (by kernel_rfl) (by kernel_rfl) (fun _ _ _ h => h) (Or.inl ⟨by rfl, ?hy134⟩) hHeld ?rest134
              case hy134 => (intro w' hSw; (try dsimp only at hSw); go_split_ands; go_simp; try with_reducible rfl)
              try simp only [Act.put, List.setIfInBounds_toArray, List.set_cons_zero, List.set_cons_succ]
              refine wpAnyH_take (i := 15) (oi := ({ dst := some 4, op := Op.assign (Operand.tmp 31), type := 3, pos := "l92_draw.go:343", after := #[{ on := 12, ground := Ground.data }, { on := 14, ground := Ground.chain }, { on := 0, ground := Ground.phase }, { on := 1, ground := Ground.phase }, { on := 2, ground := Ground.phase }, { on := 3, ground := Ground.phase }, { on := 4, ground := Ground.phase }, { on := 5, ground := Ground.phase }, { on := 6, ground := Ground.phase }, { on := 7, ground := Ground.phase }, { on := 8, ground := Ground.phase }, { on := 9, ground := Ground.phase }, { on := 10, ground := Ground.phase }, { on := 11, ground := Ground.phase }, { on := 12, ground := Ground.phase }, { on := 13, ground := Ground.phase }, { on := 14, ground := Ground.phase }], guard := none })) (v := ?v135) rfl (by kernel_rfl) (by kernel_rfl) (by kernel_rfl) (fun _ _ _ h => h) (Or.inl ⟨by rfl, ?hy135⟩) hHeld ?rest135
              case hy135 => (intro w' hSw; (try dsimp only at hSw); go_split_ands; go_simp; try with_reducible rfl)
              try simp only [Act.put, List.setIfInBounds_toArray, List.set_cons_zero, List.set_cons_succ]
              refine wpAnyH_done (by kernel_rfl) ?_ _
              clear hR s1 s2 l1 l2 n1 n2
              go_wp2
              go_ret3
              exact ⟨⟨_, _, _, rfl⟩, KW⟩
            exact AllReadyH.nil
          refine AllReadyH.cons (o := ({ dst := some 24, op := Op.buildSlice 27 4 #[(0, Operand.const (Value.int IntKind.i64 (-10000))), (1, Operand.const (Value.int IntKind.i64 9999)), (2, Operand.const (Value.int IntKind.i64 1)), (3, Operand.const (Value.int IntKind.i64 (-1)))], type := 27, pos := "l92_draw.go:343", after := #[{ on := 13, ground := Ground.gcOnly Departure.lateStores }], guard := none })) rfl (fun K hK => ?_) ?_
          ·
            go_simp
            have hsz : v127.heap.size < (v127.alloc (.cells #[.int .i64 (-10000), .int .i64 9999, .int .i64 1, .int .i64 (-1)] 3)).heap.size := by simp
            have hbe : v127.heap.size = v127.heap.size := by simp
            have F2 : ∀ x, x < 4 → (v127.alloc (.cells #[.int .i64 (-10000), .int .i64 9999, .int .i64 1, .int .i64 (-1)] 3)).cell? ⟨v127.heap.size, x, none⟩ = some (.int .i64 ([-10000, 9999, 1, -1].getD x 0)) := fun x hx => by rw [← hbe, World.cell?_alloc_new]; rcases (show x = 0 ∨ x = 1 ∨ x = 2 ∨ x = 3 by omega) with rfl | rfl | rfl | rfl <;> rfl
            have l2 : v127.heap.size < (v127.alloc (.cells #[.int .i64 (-10000), .int .i64 9999, .int .i64 1, .int .i64 (-1)] 3)).heap.size := by rw [← hbe]; exact hsz
            have n2 : v127.heap.size ≠ B := by rw [← hbe]; exact Nat.ne_of_gt hR.lt
            replace hR := hR.alloc (.cells #[.int .i64 (-10000), .int .i64 9999, .int .i64 1, .int .i64 (-1)] 3)
            replace KW := KW.alloc (.cells #[.int .i64 (-10000), .int .i64 9999, .int .i64 1, .int .i64 (-1)] 3)
            clear hsz hbe
            refine hK.out _ _ trivial (fun hHeld => ?_)
            clear hK K
            try simp only [Act.put, List.setIfInBounds_toArray, List.set_cons_zero, List.set_cons_succ]
            obtain ⟨u2, hu2⟩ : ∃ u, [-10000, 9999, 1, -1].getD j2 0 = u := ⟨_, rfl⟩
            have s2 := F2 j2 (by omega)
            rw [hu2] at s2
            clear hu2 F2
            refine wpAnyH_mono (S2 := fun w' => w'.cell? ⟨v127.heap.size, j2, none⟩ = some (.int .i64 u2)) (fun _ h => trivial) _ _ _ _ ?_
            have hHeld : (fun w' => w'.cell? ⟨v127.heap.size, j2, none⟩ = some (.int .i64 u2)) (v127.alloc (.cells #[.int .i64 (-10000), .int .i64 9999, .int .i64 1, .int .i64 (-1)] 3)) := s2
            refine wpAnyH_take (i := 8) (oi := ({ dst := some 27, op := Op.indexAddr 27 (Operand.tmp 24) (Operand.tmp 26), type := 0, pos := "l92_draw.go:343", after := #[{ on := 5, ground := Ground.data }, { on := 7, ground := Ground.data }, { on := 13, ground := Ground.gcOnly Departure.lateStores }], guard := none })) (v := ?v136) rfl (by kernel_rfl) (by kernel_rfl) (by kernel_rfl) (fun _ _ _ h => h) (Or.inl ⟨by rfl, ?hy136⟩) hHeld ?rest136
            case hy136 => (intro w' hSw; (try dsimp only at hSw); go_split_ands; go_simp; try with_reducible rfl)
            try simp only [Act.put, List.setIfInBounds_toArray, List.set_cons_zero, List.set_cons_succ]
            refine wpAnyH_take (i := 9) (oi := ({ dst := some 28, op := Op.load 3 (Operand.tmp 27), type := 3, pos := "l92_draw.go:343", after := #[{ on := 8, ground := Ground.data }, { on := 13, ground := Ground.gcOnly Departure.lateStores }], guard := none })) (v := ?v137) rfl (by kernel_rfl) (by kernel_rfl) (by kernel_rfl) (fun _ _ _ h => h) (Or.inl ⟨by rfl, ?hy137⟩) hHeld ?rest137
            case hy137 => (intro w' hSw; (try dsimp only at hSw); go_split_ands; go_simp; try with_reducible rfl)
            try simp only [Act.put, List.setIfInBounds_toArray, List.set_cons_zero, List.set_cons_succ]
            refine wpAnyH_ready (rs := [0]) (by kernel_rfl) (by simp) ?_
            refine AllReadyH.cons (o := ({ dst := some 19, op := Op.buildSlice 27 3 #[(0, Operand.const (Value.int IntKind.i64 (-1000))), (1, Operand.const (Value.int IntKind.i64 (-999))), (2, Operand.const (Value.int IntKind.i64 10999))], type := 27, pos := "l92_draw.go:343", after := #[], guard := none })) rfl (fun K hK => ?_) ?_
            ·
              go_simp
              have hsz : (v127.alloc (.cells #[.int .i64 (-10000), .int .i64 9999, .int .i64 1, .int .i64 (-1)] 3)).heap.size < ((v127.alloc (.cells #[.int .i64 (-10000), .int .i64 9999, .int .i64 1, .int .i64 (-1)] 3)).alloc (.cells #[.int .i64 (-1000), .int .i64 (-999), .int .i64 10999] 3)).heap.size := by simp
              have hbe : (v127.alloc (.cells #[.int .i64 (-10000), .int .i64 9999, .int .i64 1, .int .i64 (-1)] 3)).heap.size = v127.heap.size + 1 := by simp
              have F1 : ∀ x, x < 3 → ((v127.alloc (.cells #[.int .i64 (-10000), .int .i64 9999, .int .i64 1, .int .i64 (-1)] 3)).alloc (.cells #[.int .i64 (-1000), .int .i64 (-999), .int .i64 10999] 3)).cell? ⟨v127.heap.size + 1, x, none⟩ = some (.int .i64 ([-1000, -999, 10999].getD x 0)) := fun x hx => by rw [← hbe, World.cell?_alloc_new]; rcases (show x = 0 ∨ x = 1 ∨ x = 2 by omega) with rfl | rfl | rfl <;> rfl
              have l1 : v127.heap.size + 1 < ((v127.alloc (.cells #[.int .i64 (-10000), .int .i64 9999, .int .i64 1, .int .i64 (-1)] 3)).alloc (.cells #[.int .i64 (-1000), .int .i64 (-999), .int .i64 10999] 3)).heap.size := by rw [← hbe]; exact hsz
              have n1 : v127.heap.size + 1 ≠ B := by rw [← hbe]; exact Nat.ne_of_gt hR.lt
              replace s2 := ((Keep.refl (v127.alloc (.cells #[.int .i64 (-10000), .int .i64 9999, .int .i64 1, .int .i64 (-1)] 3))).alloc (.cells #[.int .i64 (-1000), .int .i64 (-999), .int .i64 10999] 3)).cell s2
              replace l2 := Nat.lt_trans l2 hsz
              replace hR := hR.alloc (.cells #[.int .i64 (-1000), .int .i64 (-999), .int .i64 10999] 3)
              replace KW := KW.alloc (.cells #[.int .i64 (-1000), .int .i64 (-999), .int .i64 10999] 3)
              clear hsz hbe
              refine hK.out _ _ s2 (fun hHeld => ?_)
              clear hK K
              try simp only [Act.put, List.setIfInBounds_toArray, List.set_cons_zero, List.set_cons_succ]
              obtain ⟨u1, hu1⟩ : ∃ u, [-1000, -999, 10999].getD j1 0 = u := ⟨_, rfl⟩
              have s1 := F1 j1 (by omega)
              rw [hu1] at s1
              clear hu1 F1
              refine wpAnyH_mono (S2 := fun w' => w'.cell? ⟨v127.heap.size + 1, j1, none⟩ = some (.int .i64 u1) ∧ w'.cell? ⟨v127.heap.size, j2, none⟩ = some (.int .i64 u2)) (fun _ h => h.2) _ _ _ _ ?_
              have hHeld : (fun w' => w'.cell? ⟨v127.heap.size + 1, j1, none⟩ = some (.int .i64 u1) ∧ w'.cell? ⟨v127.heap.size, j2, none⟩ = some (.int .i64 u2)) ((v127.alloc (.cells #[.int .i64 (-10000), .int .i64 9999, .int .i64 1, .int .i64 (-1)] 3)).alloc (.cells #[.int .i64 (-1000), .int .i64 (-999), .int .i64 10999] 3)) := ⟨s1, s2⟩
              refine wpAnyH_take (i := 3) (oi := ({ dst := some 22, op := Op.indexAddr 27 (Operand.tmp 19) (Operand.tmp 21), type := 0, pos := "l92_draw.go:343", after := #[{ on := 0, ground := Ground.data }, { on := 2, ground := Ground.data }], guard := none })) (v := ?v138) rfl (by kernel_rfl) (by kernel_rfl) (by kernel_rfl) (fun _ _ _ h => h) (Or.inl ⟨by rfl, ?hy138⟩) hHeld ?rest138
              case hy138 => (intro w' hSw; (try dsimp only at hSw); go_split_ands; go_simp; try with_reducible rfl)
              try simp only [Act.put, List.setIfInBounds_toArray, List.set_cons_zero, List.set_cons_succ]
              refine wpAnyH_take (i := 4) (oi := ({ dst := some 23, op := Op.load 3 (Operand.tmp 22), type := 3, pos := "l92_draw.go:343", after := #[{ on := 3, ground := Ground.data }], guard := none })) (v := ?v139) rfl (by kernel_rfl) (by kernel_rfl) (by kernel_rfl) (fun _ _ _ h => h) (Or.inl ⟨by rfl, ?hy139⟩) hHeld ?rest139
              case hy139 => (intro w' hSw; (try dsimp only at hSw); go_split_ands; go_simp; try with_reducible rfl)
              try simp only [Act.put, List.setIfInBounds_toArray, List.set_cons_zero, List.set_cons_succ]
              refine wpAnyH_take (i := 13) (oi := ({ dst := some 2, op := Op.assign (Operand.tmp 23), type := 3, pos := "l92_draw.go:343", after := #[{ on := 4, ground := Ground.data }, { on := 11, ground := Ground.chain }, { on := 0, ground := Ground.phase }, { on := 1, ground := Ground.phase }, { on := 2, ground := Ground.phase }, { on := 3, ground := Ground.phase }, { on := 4, ground := Ground.phase }, { on := 5, ground := Ground.textOnly Departure.lateStores }, { on := 6, ground := Ground.textOnly Departure.lateStores }, { on := 7, ground := Ground.textOnly Departure.lateStoresUnsure }, { on := 8, ground := Ground.textOnly Departure.lateStores }, { on := 9, ground := Ground.textOnly Departure.lateStores }, { on := 10, ground := Ground.textOnly Departure.lateStores }, { on := 11, ground := Ground.textOnly Departure.lateStoresUnsure }, { on := 12, ground := Ground.textOnly Departure.lateStores }], guard := none })) (v := ?v140) rfl (by kernel_rfl) (by kernel_rfl) (by kernel_rfl) (fun _ _ _ h => h) (Or.inl ⟨by rfl, ?hy140⟩) hHeld ?rest140
              case hy140 => (intro w' hSw; (try dsimp only at hSw); go_split_ands; go_simp; try with_reducible rfl)
              try simp only [Act.put, List.setIfInBounds_toArray, List.set_cons_zero, List.set_cons_succ]
              refine wpAnyH_take (i := 14) (oi := ({ dst := some 3, op := Op.assign (Operand.tmp 28), type := 3, pos := "l92_draw.go:343", after := #[{ on := 9, ground := Ground.data }, { on := 13, ground := Ground.chain }, { on := 0, ground := Ground.phase }, { on := 1, ground := Ground.phase }, { on := 2, ground := Ground.phase }, { on := 3, ground := Ground.phase }, { on := 4, ground := Ground.phase }, { on := 5, ground := Ground.phase }, { on := 6, ground := Ground.phase }, { on := 7, ground := Ground.phase }, { on := 8, ground := Ground.phase }, { on := 9, ground := Ground.phase }, { on := 10, ground := Ground.textOnly Departure.lateStores }, { on := 11, ground := Ground.textOnly Departure.lateStoresUnsure }, { on := 12, ground := Ground.textOnly Departure.lateStores }, { on := 13, ground := Ground.phase }], guard := none })) (v := ?v141) rfl (by kernel_rfl) (by kernel_rfl) (by kernel_rfl) (fun _ _ _ h => h) (Or.inl ⟨by rfl, ?hy141⟩) hHeld ?rest141
              case hy141 => (intro w' hSw; (try dsimp only at hSw); go_split_ands; go_simp; try with_reducible rfl)
              try simp only [Act.put, List.setIfInBounds_toArray, List.set_cons_zero, List.set_cons_succ]
              refine wpAnyH_take (i := 15) (oi := ({ dst := some 4, op := Op.assign (Operand.tmp 31), type := 3, pos := "l92_draw.go:343", after := #[{ on := 12, ground := Ground.data }, { on := 14, ground := Ground.chain }, { on := 0, ground := Ground.phase }, { on := 1, ground := Ground.phase }, { on := 2, ground := Ground.phase }, { on := 3, ground := Ground.phase }, { on := 4, ground := Ground.phase }, { on := 5, ground := Ground.phase }, { on := 6, ground := Ground.phase }, { on := 7, ground := Ground.phase }, { on := 8, ground := Ground.phase }, { on := 9, ground := Ground.phase }, { on := 10, ground := Ground.phase }, { on := 11, ground := Ground.phase }, { on := 12, ground := Ground.phase }, { on := 13, ground := Ground.phase }, { on := 14, ground := Ground.phase }], guard := none })) (v := ?v142) rfl (by kernel_rfl) (by kernel_rfl) (by kernel_rfl) (fun _ _ _ h => h) (Or.inl ⟨by rfl, ?hy142⟩) hHeld ?rest142
              case hy142 => (intro w' hSw; (try dsimp only at hSw); go_split_ands; go_simp; try with_reducible rfl)
              try simp only [Act.put, List.setIfInBounds_toArray, List.set_cons_zero, List.set_cons_succ]
              refine wpAnyH_done (by kernel_rfl) ?_ _
              clear hR s1 s2 l1 l2 n1 n2
              go_wp2
              go_ret3
              exact ⟨⟨_, _, _, rfl⟩, KW⟩
            exact AllReadyH.nil
          exact AllReadyH.nil
        exact AllReadyH.nil
      exact AllReadyH.nil
    refine AllReadyH.cons (o := ({ dst := some 24, op := Op.buildSlice 27 4 #[(0, Operand.const (Value.int IntKind.i64 (-10000))), (1, Operand.const (Value.int IntKind.i64 9999)), (2, Operand.const (Value.int IntKind.i64 1)), (3, Operand.const (Value.int IntKind.i64 (-1)))], type := 27, pos := "l92_draw.go:343", after := #[{ on := 13, ground := Ground.gcOnly Departure.lateStores }], guard := none })) rfl (fun K hK => ?_) ?_
    ·
      go_simp
      have hsz : w4.drew.heap.size < (w4.drew.alloc (.cells #[.int .i64 (-10000), .int .i64 9999, .int .i64 1, .int .i64 (-1)] 3)).heap.size := by simp
      have hbe : w4.drew.heap.size = w4.heap.size := by simp
      have F2 : ∀ x, x < 4 → (w4.drew.alloc (.cells #[.int .i64 (-10000), .int .i64 9999, .int .i64 1, .int .i64 (-1)] 3)).cell? ⟨w4.heap.size, x, none⟩ = some (.int .i64 ([-10000, 9999, 1, -1].getD x 0)) := fun x hx => by rw [← hbe, World.cell?_alloc_new]; rcases (show x = 0 ∨ x = 1 ∨ x = 2 ∨ x = 3 by omega) with rfl | rfl | rfl | rfl <;> rfl
      have l2 : w4.heap.size < (w4.drew.alloc (.cells #[.int .i64 (-10000), .int .i64 9999, .int .i64 1, .int .i64 (-1)] 3)).heap.size := by rw [← hbe]; exact hsz
      have n2 : w4.heap.size ≠ B := by rw [← hbe]; exact Nat.ne_of_gt hR.lt
      replace hR := hR.alloc (.cells #[.int .i64 (-10000), .int .i64 9999, .int .i64 1, .int .i64 (-1)] 3)
      replace KW := KW.alloc (.cells #[.int .i64 (-10000), .int .i64 9999, .int .i64 1, .int .i64 (-1)] 3)
      clear hsz hbe
      refine hK.out _ _ trivial (fun hHeld => ?_)
      clear hK K
      try simp only [Act.put, List.setIfInBounds_toArray, List.set_cons_zero, List.set_cons_succ]
      refine wpAnyH_ready (rs := [0, 2]) (by kernel_rfl) (by simp) ?_
      refine AllReadyH.cons (o := ({ dst := some 19, op := Op.buildSlice 27 3 #[(0, Operand.const (Value.int IntKind.i64 (-1000))), (1, Operand.const (Value.int IntKind.i64 (-999))), (2, Operand.const (Value.int IntKind.i64 10999))], type := 27, pos := "l92_draw.go:343", after := #[], guard := none })) rfl (fun K hK => ?_) ?_
      ·
        go_simp
        have hsz : (w4.drew.alloc (.cells #[.int .i64 (-10000), .int .i64 9999, .int .i64 1, .int .i64 (-1)] 3)).heap.size < ((w4.drew.alloc (.cells #[.int .i64 (-10000), .int .i64 9999, .int .i64 1, .int .i64 (-1)] 3)).alloc (.cells #[.int .i64 (-1000), .int .i64 (-999), .int .i64 10999] 3)).heap.size := by simp
        have hbe : (w4.drew.alloc (.cells #[.int .i64 (-10000), .int .i64 9999, .int .i64 1, .int .i64 (-1)] 3)).heap.size = w4.heap.size + 1 := by simp
        have F1 : ∀ x, x < 3 → ((w4.drew.alloc (.cells #[.int .i64 (-10000), .int .i64 9999, .int .i64 1, .int .i64 (-1)] 3)).alloc (.cells #[.int .i64 (-1000), .int .i64 (-999), .int .i64 10999] 3)).cell? ⟨w4.heap.size + 1, x, none⟩ = some (.int .i64 ([-1000, -999, 10999].getD x 0)) := fun x hx => by rw [← hbe, World.cell?_alloc_new]; rcases (show x = 0 ∨ x = 1 ∨ x = 2 by omega) with rfl | rfl | rfl <;> rfl
        have l1 : w4.heap.size + 1 < ((w4.drew.alloc (.cells #[.int .i64 (-10000), .int .i64 9999, .int .i64 1, .int .i64 (-1)] 3)).alloc (.cells #[.int .i64 (-1000), .int .i64 (-999), .int .i64 10999] 3)).heap.size := by rw [← hbe]; exact hsz
        have n1 : w4.heap.size + 1 ≠ B := by rw [← hbe]; exact Nat.ne_of_gt hR.lt
        replace F2 := fun x hx => ((Keep.refl (w4.drew.alloc (.cells #[.int .i64 (-10000), .int .i64 9999, .int .i64 1, .int .i64 (-1)] 3))).alloc (.cells #[.int .i64 (-1000), .int .i64 (-999), .int .i64 10999] 3)).cell (F2 x hx)
        replace l2 := Nat.lt_trans l2 hsz
        replace hR := hR.alloc (.cells #[.int .i64 (-1000), .int .i64 (-999), .int .i64 10999] 3)
        replace KW := KW.alloc (.cells #[.int .i64 (-1000), .int .i64 (-999), .int .i64 10999] 3)
        clear hsz hbe
        refine hK.out _ _ trivial (fun hHeld => ?_)
        clear hK K
        try simp only [Act.put, List.setIfInBounds_toArray, List.set_cons_zero, List.set_cons_succ]
        refine wpAnyH_ready (rs := [2]) (by kernel_rfl) (by simp) ?_
        refine AllReadyH.cons (o := ({ dst := some 21, op := Op.call { callee := Callee.value (Operand.func 75), args := #[Operand.tmp 20, Operand.const (Value.int IntKind.i64 3)], argTypes := #[80, 3] }, type := 3, pos := "l92_draw.go:343", after := #[{ on := 1, ground := Ground.data }], guard := none })) rfl (fun K hK => ?_) ?_
        ·
          go_simp
          refine (pick_any B 3 3 _ (by omega) (by omega) hR).mono ?_
          rintro e v143 ⟨i143, rfl, i0143, i1143, hRn, hon, _⟩
          obtain ⟨j1, rfl⟩ := Int.eq_ofNat_of_zero_le i0143
          replace F1 := fun x hx => (hon.cell (w4.heap.size + 1) x l1 n1).trans (F1 x hx)
          replace l1 := Nat.lt_of_lt_of_le l1 hon.size
          replace F2 := fun x hx => (hon.cell (w4.heap.size) x l2 n2).trans (F2 x hx)
          replace l2 := Nat.lt_of_lt_of_le l2 hon.size
          replace KW := Only.keep hon KW (by omega)
          replace hR := hRn
          clear hRn hon
          go_simp
          refine hK.out _ _ trivial (fun hHeld => ?_)
          clear hK K
          try simp only [Act.put, List.setIfInBounds_toArray, List.set_cons_zero, List.set_cons_succ]
          obtain ⟨u1, hu1⟩ : ∃ u, [-1000, -999, 10999].getD j1 0 = u := ⟨_, rfl⟩
          have s1 := F1 j1 (by omega)
          rw [hu1] at s1
          clear hu1 F1
          refine wpAnyH_mono (S2 := fun w' => w'.cell? ⟨w4.heap.size + 1, j1, none⟩ = some (.int .i64 u1)) (fun _ h => trivial) _ _ _ _ ?_
          have hHeld : (fun w' => w'.cell? ⟨w4.heap.size + 1, j1, none⟩ = some (.int .i64 u1)) v143 := s1
          refine wpAnyH_take (i := 3) (oi := ({ dst := some 22, op := Op.indexAddr 27 (Operand.tmp 19) (Operand.tmp 21), type := 0, pos := "l92_draw.go:343", after := #[{ on := 0, ground := Ground.data }, { on := 2, ground := Ground.data }], guard := none })) (v := ?v144) rfl (by kernel_rfl) (by kernel_rfl) (by kernel_rfl) (fun _ _ _ h => h) (Or.inl ⟨by rfl, ?hy144⟩) hHeld ?rest144
          case hy144 => (intro w' hSw; (try dsimp only at hSw); go_split_ands; go_simp; try with_reducible rfl)
          try simp only [Act.put, List.setIfInBounds_toArray, List.set_cons_zero, List.set_cons_succ]
          refine wpAnyH_take (i := 4) (oi := ({ dst := some 23, op := Op.load 3 (Operand.tmp 22), type := 3, pos := "l92_draw.go:343", after := #[{ on := 3, ground := Ground.data }], guard := none })) (v := ?v145) rfl (by kernel_rfl) (by kernel_rfl) (by kernel_rfl) (fun _ _ _ h => h) (Or.inl ⟨by rfl, ?hy145⟩) hHeld ?rest145
          case hy145 => (intro w' hSw; (try dsimp only at hSw); go_split_ands; go_simp; try with_reducible rfl)
          try simp only [Act.put, List.setIfInBounds_toArray, List.set_cons_zero, List.set_cons_succ]
          refine wpAnyH_ready (rs := [7]) (by kernel_rfl) (by simp) ?_
          refine AllReadyH.cons (o := ({ dst := some 26, op := Op.call { callee := Callee.value (Operand.func 75), args := #[Operand.tmp 25, Operand.const (Value.int IntKind.i64 4)], argTypes := #[80, 3] }, type := 3, pos := "l92_draw.go:343", after := #[{ on := 6, ground := Ground.data }, { on := 2, ground := Ground.chain }], guard := none })) rfl (fun K hK => ?_) ?_
          ·
            go_simp
            refine (pick_any B 4 4 _ (by omega) (by omega) hR).mono ?_
            rintro e v146 ⟨i146, rfl, i0146, i1146, hRn, hon, _⟩
            obtain ⟨j2, rfl⟩ := Int.eq_ofNat_of_zero_le i0146
            replace s1 := (hon.cell (w4.heap.size + 1) j1 l1 n1).trans s1
            replace l1 := Nat.lt_of_lt_of_le l1 hon.size
            replace F2 := fun x hx => (hon.cell (w4.heap.size) x l2 n2).trans (F2 x hx)
            replace l2 := Nat.lt_of_lt_of_le l2 hon.size
            replace KW := Only.keep hon KW (by omega)
            replace hR := hRn
            clear hRn hon
            go_simp
            refine hK.out _ _ s1 (fun hHeld => ?_)
            clear hK K
            try simp only [Act.put, List.setIfInBounds_toArray, List.set_cons_zero, List.set_cons_succ]
            obtain ⟨u2, hu2⟩ : ∃ u, [-10000, 9999, 1, -1].getD j2 0 = u := ⟨_, rfl⟩
            have s2 := F2 j2 (by omega)
            rw [hu2] at s2
            clear hu2 F2
            refine wpAnyH_mono (S2 := fun w' => w'.cell? ⟨w4.heap.size + 1, j1, none⟩ = some (.int .i64 u1) ∧ w'.cell? ⟨w4.heap.size, j2, none⟩ = some (.int .i64 u2)) (fun _ h => h.1) _ _ _ _ ?_
            have hHeld : (fun w' => w'.cell? ⟨w4.heap.size + 1, j1, none⟩ = some (.int .i64 u1) ∧ w'.cell? ⟨w4.heap.size, j2, none⟩ = some (.int .i64 u2)) v146 := ⟨s1, s2⟩
            refine wpAnyH_take (i := 8) (oi := ({ dst := some 27, op := Op.indexAddr 27 (Operand.tmp 24) (Operand.tmp 26), type := 0, pos := "l92_draw.go:343", after := #[{ on := 5, ground := Ground.data }, { on := 7, ground := Ground.data }, { on := 13, ground := Ground.gcOnly Departure.lateStores }], guard := none })) (v := ?v147) rfl (by kernel_rfl) (by kernel_rfl) (by kernel_rfl) (fun _ _ _ h => h) (Or.inl ⟨by rfl, ?hy147⟩) hHeld ?rest147
            case hy147 => (intro w' hSw; (try dsimp only at hSw); go_split_ands; go_simp; try with_reducible rfl)
            try simp only [Act.put, List.setIfInBounds_toArray, List.set_cons_zero, List.set_cons_succ]
            refine wpAnyH_take (i := 9) (oi := ({ dst := some 28, op := Op.load 3 (Operand.tmp 27), type := 3, pos := "l92_draw.go:343", after := #[{ on := 8, ground := Ground.data }, { on := 13, ground := Ground.gcOnly Departure.lateStores }], guard := none })) (v := ?v148) rfl (by kernel_rfl) (by kernel_rfl) (by kernel_rfl) (fun _ _ _ h => h) (Or.inl ⟨by rfl, ?hy148⟩) hHeld ?rest148
            case hy148 => (intro w' hSw; (try dsimp only at hSw); go_split_ands; go_simp; try with_reducible rfl)
            try simp only [Act.put, List.setIfInBounds_toArray, List.set_cons_zero, List.set_cons_succ]
            refine wpAnyH_ready (rs := [11]) (by kernel_rfl) (by simp) ?_
            refine AllReadyH.cons (o := ({ dst := some 30, op := Op.call { callee := Callee.value (Operand.func 75), args := #[Operand.tmp 29, Operand.const (Value.int IntKind.i64 3)], argTypes := #[80, 3] }, type := 3, pos := "l92_draw.go:343", after := #[{ on := 10, ground := Ground.data }, { on := 7, ground := Ground.chain }], guard := none })) rfl (fun K hK => ?_) ?_
            ·
              go_simp
              refine (pick_any B 5 3 _ (by omega) (by omega) hR).mono ?_
              rintro e v149 ⟨i149, rfl, i0149, i1149, hRn, hon, _⟩
              obtain ⟨j3, rfl⟩ := Int.eq_ofNat_of_zero_le i0149
              replace s1 := (hon.cell (w4.heap.size + 1) j1 l1 n1).trans s1
              replace l1 := Nat.lt_of_lt_of_le l1 hon.size
              replace s2 := (hon.cell (w4.heap.size) j2 l2 n2).trans s2
              replace l2 := Nat.lt_of_lt_of_le l2 hon.size
              replace KW := Only.keep hon KW (by omega)
              replace hR := hRn
              clear hRn hon
              go_simp
              refine hK.out _ _ ⟨s1, s2⟩ (fun hHeld => ?_)
              clear hK K
              try simp only [Act.put, List.setIfInBounds_toArray, List.set_cons_zero, List.set_cons_succ]
              refine wpAnyH_take (i := 12) (oi := ({ dst := some 31, op := Op.binOp BinOp.mul 3 (Operand.tmp 30) (Operand.const (Value.int IntKind.i64 6)) 3, type := 3, pos := "l92_draw.go:343", after := #[{ on := 11, ground := Ground.data }, { on := 14, ground := Ground.gcOnly Departure.lateStores }], guard := none })) (v := ?v150) rfl (by kernel_rfl) (by kernel_rfl) (by kernel_rfl) (fun _ _ _ h => h) (Or.inl ⟨by rfl, ?hy150⟩) hHeld ?rest150
              case hy150 => (intro w' hSw; (try dsimp only at hSw); go_split_ands; go_simp; try with_reducible rfl)
              try simp only [Act.put, List.setIfInBounds_toArray, List.set_cons_zero, List.set_cons_succ]
              refine wpAnyH_take (i := 13) (oi := ({ dst := some 2, op := Op.assign (Operand.tmp 23), type := 3, pos := "l92_draw.go:343", after := #[{ on := 4, ground := Ground.data }, { on := 11, ground := Ground.chain }, { on := 0, ground := Ground.phase }, { on := 1, ground := Ground.phase }, { on := 2, ground := Ground.phase }, { on := 3, ground := Ground.phase }, { on := 4, ground := Ground.phase }, { on := 5, ground := Ground.textOnly Departure.lateStores }, { on := 6, ground := Ground.textOnly Departure.lateStores }, { on := 7, ground := Ground.textOnly Departure.lateStoresUnsure }, { on := 8, ground := Ground.textOnly Departure.lateStores }, { on := 9, ground := Ground.textOnly Departure.lateStores }, { on := 10, ground := Ground.textOnly Departure.lateStores }, { on := 11, ground := Ground.textOnly Departure.lateStoresUnsure }, { on := 12, ground := Ground.textOnly Departure.lateStores }], guard := none })) (v := ?v151) rfl (by kernel_rfl) (by kernel_rfl) (by kernel_rfl) (fun _ _ _ h => h) (Or.inl ⟨by rfl, ?hy151⟩) hHeld ?rest151
              case hy151 => (intro w' hSw; (try dsimp only at hSw); go_split_ands; go_simp; try with_reducible rfl)
              try simp only [Act.put, List.setIfInBounds_toArray, List.set_cons_zero, List.set_cons_succ]
              refine wpAnyH_take (i := 14) (oi := ({ dst := some 3, op := Op.assign (Operand.tmp 28), type := 3, pos := "l92_draw.go:343", after := #[{ on := 9, ground := Ground.data }, { on := 13, ground := Ground.chain }, { on := 0, ground := Ground.phase }, { on := 1, ground := Ground.phase }, { on := 2, ground := Ground.phase }, { on := 3, ground := Ground.phase }, { on := 4, ground := Ground.phase }, { on := 5, ground := Ground.phase }, { on := 6, ground := Ground.phase }, { on := 7, ground := Ground.phase }, { on := 8, ground := Ground.phase }, { on := 9, ground := Ground.phase }, { on := 10, ground := Ground.textOnly Departure.lateStores }, { on := 11, ground := Ground.textOnly Departure.lateStoresUnsure }, { on := 12, ground := Ground.textOnly Departure.lateStores }, { on := 13, ground := Ground.phase }], guard := none })) (v := ?v152) rfl (by kernel_rfl) (by kernel_rfl) (by kernel_rfl) (fun _ _ _ h => h) (Or.inl ⟨by rfl, ?hy152⟩) hHeld ?rest152
              case hy152 => (intro w' hSw; (try dsimp only at hSw); go_split_ands; go_simp; try with_reducible rfl)
              try simp only [Act.put, List.setIfInBounds_toArray, List.set_cons_zero, List.set_cons_succ]
              refine wpAnyH_take (i := 15) (oi := ({ dst := some 4, op := Op.assign (Operand.tmp 31), type := 3, pos := "l92_draw.go:343", after := #[{ on := 12, ground := Ground.data }, { on := 14, ground := Ground.chain }, { on := 0, ground := Ground.phase }, { on := 1, ground := Ground.phase }, { on := 2, ground := Ground.phase }, { on := 3, ground := Ground.phase }, { on := 4, ground := Ground.phase }, { on := 5, ground := Ground.phase }, { on := 6, ground := Ground.phase }, { on := 7, ground := Ground.phase }, { on := 8, ground := Ground.phase }, { on := 9, ground := Ground.phase }, { on := 10, ground := Ground.phase }, { on := 11, ground := Ground.phase }, { on := 12, ground := Ground.phase }, { on := 13, ground := Ground.phase }, { on := 14, ground := Ground.phase }], guard := none })) (v := ?v153) rfl (by kernel_rfl) (by kernel_rfl) (by kernel_rfl) (fun _ _ _ h => h) (Or.inl ⟨by rfl, ?hy153⟩) hHeld ?rest153
              case hy153 => (intro w' hSw; (try dsimp only at hSw); go_split_ands; go_simp; try with_reducible rfl)
              try simp only [Act.put, List.setIfInBounds_toArray, List.set_cons_zero, List.set_cons_succ]
              refine wpAnyH_done (by kernel_rfl) ?_ _
              clear hR s1 s2 l1 l2 n1 n2
              go_wp2
              go_ret3
              exact ⟨⟨_, _, _, rfl⟩, KW⟩
            exact AllReadyH.nil
          exact AllReadyH.nil
        exact AllReadyH.nil
      refine AllReadyH.cons (o := ({ dst := some 21, op := Op.call { callee := Callee.value (Operand.func 75), args := #[Operand.tmp 20, Operand.const (Value.int IntKind.i64 3)], argTypes := #[80, 3] }, type := 3, pos := "l92_draw.go:343", after := #[{ on := 1, ground := Ground.data }], guard := none })) rfl (fun K hK => ?_) ?_
      ·
        go_simp
        refine (pick_any B 3 3 _ (by omega) (by omega) hR).mono ?_
        rintro e v154 ⟨i154, rfl, i0154, i1154, hRn, hon, _⟩
        obtain ⟨j1, rfl⟩ := Int.eq_ofNat_of_zero_le i0154
        replace F2 := fun x hx => (hon.cell (w4.heap.size) x l2 n2).trans (F2 x hx)
        replace l2 := Nat.lt_of_lt_of_le l2 hon.size
        replace KW := Only.keep hon KW (by omega)
        replace hR := hRn
        clear hRn hon
        go_simp
        refine hK.out _ _ trivial (fun hHeld => ?_)
        clear hK K
        try simp only [Act.put, List.setIfInBounds_toArray, List.set_cons_zero, List.set_cons_succ]
        refine wpAnyH_ready (rs := [0, 7]) (by kernel_rfl) (by simp) ?_
        refine AllReadyH.cons (o := ({ dst := some 19, op := Op.buildSlice 27 3 #[(0, Operand.const (Value.int IntKind.i64 (-1000))), (1, Operand.const (Value.int IntKind.i64 (-999))), (2, Operand.const (Value.int IntKind.i64 10999))], type := 27, pos := "l92_draw.go:343", after := #[], guard := none })) rfl (fun K hK => ?_) ?_
        ·
          go_simp
          have hsz : v154.heap.size < (v154.alloc (.cells #[.int .i64 (-1000), .int .i64 (-999), .int .i64 10999] 3)).heap.size := by simp
          have hbe : v154.heap.size = v154.heap.size := by simp
          have F1 : ∀ x, x < 3 → (v154.alloc (.cells #[.int .i64 (-1000), .int .i64 (-999), .int .i64 10999] 3)).cell? ⟨v154.heap.size, x, none⟩ = some (.int .i64 ([-1000, -999, 10999].getD x 0)) := fun x hx => by rw [← hbe, World.cell?_alloc_new]; rcases (show x = 0 ∨ x = 1 ∨ x = 2 by omega) with rfl | rfl | rfl <;> rfl
          have l1 : v154.heap.size < (v154.alloc (.cells #[.int .i64 (-1000), .int .i64 (-999), .int .i64 10999] 3)).heap.size := by rw [← hbe]; exact hsz
          have n1 : v154.heap.size ≠ B := by rw [← hbe]; exact Nat.ne_of_gt hR.lt
          replace F2 := fun x hx => ((Keep.refl v154).alloc (.cells #[.int .i64 (-1000), .int .i64 (-999), .int .i64 10999] 3)).cell (F2 x hx)
          replace l2 := Nat.lt_trans l2 hsz
          replace hR := hR.alloc (.cells #[.int .i64 (-1000), .int .i64 (-999), .int .i64 10999] 3)
          replace KW := KW.alloc (.cells #[.int .i64 (-1000), .int .i64 (-999), .int .i64 10999] 3)
          clear hsz hbe
          refine hK.out _ _ trivial (fun hHeld => ?_)
          clear hK K
          try simp only [Act.put, List.setIfInBounds_toArray, List.set_cons_zero, List.set_cons_succ]
          obtain ⟨u1, hu1⟩ : ∃ u, [-1000, -999, 10999].getD j1 0 = u := ⟨_, rfl⟩
          have s1 := F1 j1 (by omega)
          rw [hu1] at s1
          clear hu1 F1
          refine wpAnyH_mono (S2 := fun w' => w'.cell? ⟨v154.heap.size, j1, none⟩ = some (.int .i64 u1)) (fun _ h => trivial) _ _ _ _ ?_
          have hHeld : (fun w' => w'.cell? ⟨v154.heap.size, j1, none⟩ = some (.int .i64 u1)) (v154.alloc (.cells #[.int .i64 (-1000), .int .i64 (-999), .int .i64 10999] 3)) := s1
          refine wpAnyH_take (i := 3) (oi := ({ dst := some 22, op := Op.indexAddr 27 (Operand.tmp 19) (Operand.tmp 21), type := 0, pos := "l92_draw.go:343", after := #[{ on := 0, ground := Ground.data }, { on := 2, ground := Ground.data }], guard := none })) (v := ?v155) rfl (by kernel_rfl) (by kernel_rfl) (by kernel_rfl) (fun _ _ _ h => h) (Or.inl ⟨by rfl, ?hy155⟩) hHeld ?rest155
          case hy155 => (intro w' hSw; (try dsimp only at hSw); go_split_ands; go_simp; try with_reducible rfl)
          try simp only [Act.put, List.setIfInBounds_toArray, List.set_cons_zero, List.set_cons_succ]
          refine wpAnyH_take (i := 4) (oi := ({ dst := some 23, op := Op.load 3 (Operand.tmp 22), type := 3, pos := "l92_draw.go:343", after := #[{ on := 3, ground := Ground.data }], guard := none })) (v := ?v156) rfl (by kernel_rfl) (by kernel_rfl) (by kernel_rfl) (fun _ _ _ h => h) (Or.inl ⟨by rfl, ?hy156⟩) hHeld ?rest156
          case hy156 => (intro w' hSw; (try dsimp only at hSw); go_split_ands; go_simp; try with_reducible rfl)
          try simp only [Act.put, List.setIfInBounds_toArray, List.set_cons_zero, List.set_cons_succ]
          refine wpAnyH_ready (rs := [7]) (by kernel_rfl) (by simp) ?_
          refine AllReadyH.cons (o := ({ dst := some 26, op := Op.call { callee := Callee.value (Operand.func 75), args := #[Operand.tmp 25, Operand.const (Value.int IntKind.i64 4)], argTypes := #[80, 3] }, type := 3, pos := "l92_draw.go:343", after := #[{ on := 6, ground := Ground.data }, { on := 2, ground := Ground.chain }], guard := none })) rfl (fun K hK => ?_) ?_
          ·
            go_simp
            refine (pick_any B 4 4 _ (by omega) (by omega) hR).mono ?_
            rintro e v157 ⟨i157, rfl, i0157, i1157, hRn, hon, _⟩
            obtain ⟨j2, rfl⟩ := Int.eq_ofNat_of_zero_le i0157
            replace s1 := (hon.cell (v154.heap.size) j1 l1 n1).trans s1
            replace l1 := Nat.lt_of_lt_of_le l1 hon.size
            replace F2 := fun x hx => (hon.cell (w4.heap.size) x l2 n2).trans (F2 x hx)
            replace l2 := Nat.lt_of_lt_of_le l2 hon.size
            replace KW := Only.keep hon KW (by omega)
            replace hR := hRn
            clear hRn hon
            go_simp
            refine hK.out _ _ s1 (fun hHeld => ?_)
            clear hK K
            try simp only [Act.put, List.setIfInBounds_toArray, List.set_cons_zero, List.set_cons_succ]
            obtain ⟨u2, hu2⟩ : ∃ u, [-10000, 9999, 1, -1].getD j2 0 = u := ⟨_, rfl⟩
            have s2 := F2 j2 (by omega)
            rw [hu2] at s2
            clear hu2 F2
            refine wpAnyH_mono (S2 := fun w' => w'.cell? ⟨v154.heap.size, j1, none⟩ = some (.int .i64 u1) ∧ w'.cell? ⟨w4.heap.size, j2, none⟩ = some (.int .i64 u2)) (fun _ h => h.1) _ _ _ _ ?_
            have hHeld : (fun w' => w'.cell? ⟨v154.heap.size, j1, none⟩ = some (.int .i64 u1) ∧ w'.cell? ⟨w4.heap.size, j2, none⟩ = some (.int .i64 u2)) v157 := ⟨s1, s2⟩
            refine wpAnyH_take (i := 8) (oi := ({ dst := some 27, op := Op.indexAddr 27 (Operand.tmp 24) (Operand.tmp 26), type := 0, pos := "l92_draw.go:343", after := #[{ on := 5, ground := Ground.data }, { on := 7, ground := Ground.data }, { on := 13, ground := Ground.gcOnly Departure.lateStores }], guard := none })) (v := ?v158) rfl (by kernel_rfl) (by kernel_rfl) (by kernel_rfl) (fun _ _ _ h => h) (Or.inl ⟨by rfl, ?hy158⟩) hHeld ?rest158
            case hy158 => (intro w' hSw; (try dsimp only at hSw); go_split_ands; go_simp; try with_reducible rfl)
            try simp only [Act.put, List.setIfInBounds_toArray, List.set_cons_zero, List.set_cons_succ]
            refine wpAnyH_take (i := 9) (oi := ({ dst := some 28, op := Op.load 3 (Operand.tmp 27), type := 3, pos := "l92_draw.go:343", after := #[{ on := 8, ground := Ground.data }, { on := 13, ground := Ground.gcOnly Departure.lateStores }], guard := none })) (v := ?v159) rfl (by kernel_rfl) (by kernel_rfl) (by kernel_rfl) (fun _ _ _ h => h) (Or.inl ⟨by rfl, ?hy159⟩) hHeld ?rest159
            case hy159 => (intro w' hSw; (try dsimp only at hSw); go_split_ands; go_simp; try with_reducible rfl)
            try simp only [Act.put, List.setIfInBounds_toArray, List.set_cons_zero, List.set_cons_succ]
            refine wpAnyH_ready (rs := [11]) (by kernel_rfl) (by simp) ?_
            refine AllReadyH.cons (o := ({ dst := some 30, op := Op.call { callee := Callee.value (Operand.func 75), args := #[Operand.tmp 29, Operand.const (Value.int IntKind.i64 3)], argTypes := #[80, 3] }, type := 3, pos := "l92_draw.go:343", after := #[{ on := 10, ground := Ground.data }, { on := 7, ground := Ground.chain }], guard := none })) rfl (fun K hK => ?_) ?_
            ·
              go_simp
              refine (pick_any B 5 3 _ (by omega) (by omega) hR).mono ?_
              rintro e v160 ⟨i160, rfl, i0160, i1160, hRn, hon, _⟩
              obtain ⟨j3, rfl⟩ := Int.eq_ofNat_of_zero_le i0160
              replace s1 := (hon.cell (v154.heap.size) j1 l1 n1).trans s1
              replace l1 := Nat.lt_of_lt_of_le l1 hon.size
              replace s2 := (hon.cell (w4.heap.size) j2 l2 n2).trans s2
              replace l2 := Nat.lt_of_lt_of_le l2 hon.size
              replace KW := Only.keep hon KW (by omega)
              replace hR := hRn
              clear hRn hon
              go_simp
              refine hK.out _ _ ⟨s1, s2⟩ (fun hHeld => ?_)
              clear hK K
              try simp only [Act.put, List.setIfInBounds_toArray, List.set_cons_zero, List.set_cons_succ]
              refine wpAnyH_take (i := 12) (oi := ({ dst := some 31, op := Op.binOp BinOp.mul 3 (Operand.tmp 30) (Operand.const (Value.int IntKind.i64 6)) 3, type := 3, pos := "l92_draw.go:343", after := #[{ on := 11, ground := Ground.data }, { on := 14, ground := Ground.gcOnly Departure.lateStores }], guard := none })) (v := ?v161) rfl (by kernel_rfl) (by kernel_rfl) (by kernel_rfl) (fun _ _ _ h => h) (Or.inl ⟨by rfl, ?hy161⟩) hHeld ?rest161
              case hy161 => (intro w' hSw; (try dsimp only at hSw); go_split_ands; go_simp; try with_reducible rfl)
              try simp only [Act.put, List.setIfInBounds_toArray, List.set_cons_zero, List.set_cons_succ]
              refine wpAnyH_take (i := 13) (oi := ({ dst := some 2, op := Op.assign (Operand.tmp 23), type := 3, pos := "l92_draw.go:343", after := #[{ on := 4, ground := Ground.data }, { on := 11, ground := Ground.chain }, { on := 0, ground := Ground.phase }, { on := 1, ground := Ground.phase }, { on := 2, ground := Ground.phase }, { on := 3, ground := Ground.phase }, { on := 4, ground := Ground.phase }, { on := 5, ground := Ground.textOnly Departure.lateStores }, { on := 6, ground := Ground.textOnly Departure.lateStores }, { on := 7, ground := Ground.textOnly Departure.lateStoresUnsure }, { on := 8, ground := Ground.textOnly Departure.lateStores }, { on := 9, ground := Ground.textOnly Departure.lateStores }, { on := 10, ground := Ground.textOnly Departure.lateStores }, { on := 11, ground := Ground.textOnly Departure.lateStoresUnsure }, { on := 12, ground := Ground.textOnly Departure.lateStores }], guard := none })) (v := ?v162) rfl (by kernel_rfl) (by kernel_rfl) (by kernel_rfl) (fun _ _ _ h => h) (Or.inl ⟨by rfl, ?hy162⟩) hHeld ?rest162
              case hy162 => (intro w' hSw; (try dsimp only at hSw); go_split_ands; go_simp; try with_reducible rfl)
              try simp only [Act.put, List.setIfInBounds_toArray, List.set_cons_zero, List.set_cons_succ]
              refine wpAnyH_take (i := 14) (oi := ({ dst := some 3, op := Op.assign (Operand.tmp 28), type := 3, pos := "l92_draw.go:343", after := #[{ on := 9, ground := Ground.data }, { on := 13, ground := Ground.chain }, { on := 0, ground := Ground.phase }, { on := 1, ground := Ground.phase }, { on := 2, ground := Ground.phase }, { on := 3, ground := Ground.phase }, { on := 4, ground := Ground.phase }, { on := 5, ground := Ground.phase }, { on := 6, ground := Ground.phase }, { on := 7, ground := Ground.phase }, { on := 8, ground := Ground.phase }, { on := 9, ground := Ground.phase }, { on := 10, ground := Ground.textOnly Departure.lateStores }, { on := 11, ground := Ground.textOnly Departure.lateStoresUnsure }, { on := 12, ground := Ground.textOnly Departure.lateStores }, { on := 13, ground := Ground.phase }], guard := none })) (v := ?v163) rfl (by kernel_rfl) (by kernel_rfl) (by kernel_rfl) (fun _ _ _ h => h) (Or.inl ⟨by rfl, ?hy163⟩) hHeld ?rest163
              case hy163 => (intro w' hSw; (try dsimp only at hSw); go_split_ands; go_simp; try with_reducible rfl)
              try simp only [Act.put, List.setIfInBounds_toArray, List.set_cons_zero, List.set_cons_succ]
              refine wpAnyH_take (i := 15) (oi := ({ dst := some 4, op := Op.assign (Operand.tmp 31), type := 3, pos := "l92_draw.go:343", after := #[{ on := 12, ground := Ground.data }, { on := 14, ground := Ground.chain }, { on := 0, ground := Ground.phase }, { on := 1, ground := Ground.phase }, { on := 2, ground := Ground.phase }, { on := 3, ground := Ground.phase }, { on := 4, ground := Ground.phase }, { on := 5, ground := Ground.phase }, { on := 6, ground := Ground.phase }, { on := 7, ground := Ground.phase }, { on := 8, ground := Ground.phase }, { on := 9, ground := Ground.phase }, { on := 10, ground := Ground.phase }, { on := 11, ground := Ground.phase }, { on := 12, ground := Ground.phase }, { on := 13, ground := Ground.phase }, { on := 14, ground := Ground.phase }], guard := none })) (v := ?v164) rfl (by kernel_rfl) (by kernel_rfl) (by kernel_rfl) (fun _ _ _ h => h) (Or.inl ⟨by rfl, ?hy164⟩) hHeld ?rest164
              case hy164 => (intro w' hSw; (try dsimp only at hSw); go_split_ands; go_simp; try with_reducible rfl)
              try simp only [Act.put, List.setIfInBounds_toArray, List.set_cons_zero, List.set_cons_succ]
              refine wpAnyH_done (by kernel_rfl) ?_ _
              clear hR s1 s2 l1 l2 n1 n2
              go_wp2
              go_ret3
              exact ⟨⟨_, _, _, rfl⟩, KW⟩
            exact AllReadyH.nil
          exact AllReadyH.nil
        refine AllReadyH.cons (o := ({ dst := some 26, op := Op.call { callee := Callee.value (Operand.func 75), args := #[Operand.tmp 25, Operand.const (Value.int IntKind.i64 4)], argTypes := #[80, 3] }, type := 3, pos := "l92_draw.go:343", after := #[{ on := 6, ground := Ground.data }, { on := 2, ground := Ground.chain }], guard := none })) rfl (fun K hK => ?_) ?_
        ·
          go_simp
          refine (pick_any B 4 4 _ (by omega) (by omega) hR).mono ?_
          rintro e v165 ⟨i165, rfl, i0165, i1165, hRn, hon, _⟩
          obtain ⟨j2, rfl⟩ := Int.eq_ofNat_of_zero_le i0165
          replace F2 := fun x hx => (hon.cell (w4.heap.size) x l2 n2).trans (F2 x hx)
          replace l2 := Nat.lt_of_lt_of_le l2 hon.size
          replace KW := Only.keep hon KW (by omega)
          replace hR := hRn
          clear hRn hon
          go_simp
          refine hK.out _ _ trivial (fun hHeld => ?_)
          clear hK K
          try simp only [Act.put, List.setIfInBounds_toArray, List.set_cons_zero, List.set_cons_succ]
          obtain ⟨u2, hu2⟩ : ∃ u, [-10000, 9999, 1, -1].getD j2 0 = u := ⟨_, rfl⟩
          have s2 := F2 j2 (by omega)
          rw [hu2] at s2
          clear hu2 F2
          refine wpAnyH_mono (S2 := fun w' => w'.cell? ⟨w4.heap.size, j2, none⟩ = some (.int .i64 u2)) (fun _ h => trivial) _ _ _ _ ?_
          have hHeld : (fun w' => w'.cell? ⟨w4.heap.size, j2, none⟩ = some (.int .i64 u2)) v165 := s2
          refine wpAnyH_take (i := 8) (oi := ({ dst := some 27, op := Op.indexAddr 27 (Operand.tmp 24) (Operand.tmp 26), type := 0, pos := "l92_draw.go:343", after := #[{ on := 5, ground := Ground.data }, { on := 7, ground := Ground.data }, { on := 13, ground := Ground.gcOnly Departure.lateStores }], guard := none })) (v := ?v166) rfl (by kernel_rfl) (by kernel_rfl) (by kernel_rfl) (fun _ _ _ h => h) (Or.inl ⟨by rfl, ?hy166⟩) hHeld ?rest166
          case hy166 => (intro w' hSw; (try dsimp only at hSw); go_split_ands; go_simp; try with_reducible rfl)
          try simp only [Act.put, List.setIfInBounds_toArray, List.set_cons_zero, List.set_cons_succ]
          refine wpAnyH_take (i := 9) (oi := ({ dst := some 28, op := Op.load 3 (Operand.tmp 27), type := 3, pos := "l92_draw.go:343", after := #[{ on := 8, ground := Ground.data }, { on := 13, ground := Ground.gcOnly Departure.lateStores }], guard := none })) (v := ?v167) rfl (by kernel_rfl) (by kernel_rfl) (by kernel_rfl) (fun _ _ _ h => h) (Or.inl ⟨by rfl, ?hy167⟩) hHeld ?rest167
          case hy167 => (intro w' hSw; (try dsimp only at hSw); go_split_ands; go_simp; try with_reducible rfl)
          try simp only [Act.put, List.setIfInBounds_toArray, List.set_cons_zero, List.set_cons_succ]
          refine wpAnyH_ready (rs := [0, 11]) (by kernel_rfl) (by simp) ?_
          refine AllReadyH.cons (o := ({ dst := some 19, op := Op.buildSlice 27 3 #[(0, Operand.const (Value.int IntKind.i64 (-1000))), (1, Operand.const (Value.int IntKind.i64 (-999))), (2, Operand.const (Value.int IntKind.i64 10999))], type := 27, pos := "l92_draw.go:343", after := #[], guard := none })) rfl (fun K hK => ?_) ?_
          ·
            go_simp
            have hsz : v165.heap.size < (v165.alloc (.cells #[.int .i64 (-1000), .int .i64 (-999), .int .i64 10999] 3)).heap.size := by simp
            have hbe : v165.heap.size = v165.heap.size := by simp
            have F1 : ∀ x, x < 3 → (v165.alloc (.cells #[.int .i64 (-1000), .int .i64 (-999), .int .i64 10999] 3)).cell? ⟨v165.heap.size, x, none⟩ = some (.int .i64 ([-1000, -999, 10999].getD x 0)) := fun x hx => by rw [← hbe, World.cell?_alloc_new]; rcases (show x = 0 ∨ x = 1 ∨ x = 2 by omega) with rfl | rfl | rfl <;> rfl
            have l1 : v165.heap.size < (v165.alloc (.cells #[.int .i64 (-1000), .int .i64 (-999), .int .i64 10999] 3)).heap.size := by rw [← hbe]; exact hsz
            have n1 : v165.heap.size ≠ B := by rw [← hbe]; exact Nat.ne_of_gt hR.lt
            replace s2 := ((Keep.refl v165).alloc (.cells #[.int .i64 (-1000), .int .i64 (-999), .int .i64 10999] 3)).cell s2
            replace l2 := Nat.lt_trans l2 hsz
            replace hR := hR.alloc (.cells #[.int .i64 (-1000), .int .i64 (-999), .int .i64 10999] 3)
            replace KW := KW.alloc (.cells #[.int .i64 (-1000), .int .i64 (-999), .int .i64 10999] 3)
            clear hsz hbe
            refine hK.out _ _ s2 (fun hHeld => ?_)
            clear hK K
            try simp only [Act.put, List.setIfInBounds_toArray, List.set_cons_zero, List.set_cons_succ]
            obtain ⟨u1, hu1⟩ : ∃ u, [-1000, -999, 10999].getD j1 0 = u := ⟨_, rfl⟩
            have s1 := F1 j1 (by omega)
            rw [hu1] at s1
            clear hu1 F1
            refine wpAnyH_mono (S2 := fun w' => w'.cell? ⟨v165.heap.size, j1, none⟩ = some (.int .i64 u1) ∧ w'.cell? ⟨w4.heap.size, j2, none⟩ = some (.int .i64 u2)) (fun _ h => h.2) _ _ _ _ ?_
            have hHeld : (fun w' => w'.cell? ⟨v165.heap.size, j1, none⟩ = some (.int .i64 u1) ∧ w'.cell? ⟨w4.heap.size, j2, none⟩ = some (.int .i64 u2)) (v165.alloc (.cells #[.int .i64 (-1000), .int .i64 (-999), .int .i64 10999] 3)) := ⟨s1, s2⟩
            refine wpAnyH_take (i := 3) (oi := ({ dst := some 22, op := Op.indexAddr 27 (Operand.tmp 19) (Operand.tmp 21), type := 0, pos := "l92_draw.go:343", after := #[{ on := 0, ground := Ground.data }, { on := 2, ground := Ground.data }], guard := none })) (v := ?v168) rfl (by kernel_rfl) (by kernel_rfl) (by kernel_rfl) (fun _ _ _ h => h) (Or.inl ⟨by rfl, ?hy168⟩) hHeld ?rest168
            case hy168 => (intro w' hSw; (try dsimp only at hSw); go_split_ands; go_simp; try with_reducible rfl)
            try simp only [Act.put, List.setIfInBounds_toArray, List.set_cons_zero, List.set_cons_succ]
            refine wpAnyH_take (i := 4) (oi := ({ dst := some 23, op := Op.load 3 (Operand.tmp 22), type := 3, pos := "l92_draw.go:343", after := #[{ on := 3, ground := Ground.data }], guard := none })) (v := ?v169) rfl (by kernel_rfl) (by kernel_rfl) (by kernel_rfl) (fun _ _ _ h => h) (Or.inl ⟨by rfl, ?hy169⟩) hHeld ?rest169
            case hy169 => (intro w' hSw; (try dsimp only at hSw); go_split_ands; go_simp; try with_reducible rfl)
            try simp only [Act.put, List.setIfInBounds_toArray, List.set_cons_zero, List.set_cons_succ]
            refine wpAnyH_ready (rs := [11]) (by kernel_rfl) (by simp) ?_
            refine AllReadyH.cons (o := ({ dst := some 30, op := Op.call { callee := Callee.value (Operand.func 75), args := #[Operand.tmp 29, Operand.const (Value.int IntKind.i64 3)], argTypes := #[80, 3] }, type := 3, pos := "l92_draw.go:343", after := #[{ on := 10, ground := Ground.data }, { on := 7, ground := Ground.chain }], guard := none })) rfl (fun K hK => ?_) ?_
            ·
              go_simp
              refine (pick_any B 5 3 _ (by omega) (by omega) hR).mono ?_
              rintro e v170 ⟨i170, rfl, i0170, i1170, hRn, hon, _⟩
              obtain ⟨j3, rfl⟩ := Int.eq_ofNat_of_zero_le i0170
              replace s1 := (hon.cell (v165.heap.size) j1 l1 n1).trans s1
              replace l1 := Nat.lt_of_lt_of_le l1 hon.size
              replace s2 := (hon.cell (w4.heap.size) j2 l2 n2).trans s2
              replace l2 := Nat.lt_of_lt_of_le l2 hon.size
              replace KW := Only.keep hon KW (by omega)
              replace hR := hRn
              clear hRn hon
              go_simp
              refine hK.out _ _ ⟨s1, s2⟩ (fun hHeld => ?_)
              clear hK K
              try simp only [Act.put, List.setIfInBounds_toArray, List.set_cons_zero, List.set_cons_succ]
              refine wpAnyH_take (i := 12) (oi := ({ dst := some 31, op := Op.binOp BinOp.mul 3 (Operand.tmp 30) (Operand.const (Value.int IntKind.i64 6)) 3, type := 3, pos := "l92_draw.go:343", after := #[{ on := 11, ground := Ground.data }, { on := 14, ground := Ground.gcOnly Departure.lateStores }], guard := none })) (v := ?v171) rfl (by kernel_rfl) (by kernel_rfl) (by kernel_rfl) (fun _ _ _ h => h) (Or.inl ⟨by rfl, ?hy171⟩) hHeld ?rest171
              case hy171 => (intro w' hSw; (try dsimp only at hSw); go_split_ands; go_simp; try with_reducible rfl)
              try simp only [Act.put, List.setIfInBounds_toArray, List.set_cons_zero, List.set_cons_succ]
              refine wpAnyH_take (i := 13) (oi := ({ dst := some 2, op := Op.assign (Operand.tmp 23), type := 3, pos := "l92_draw.go:343", after := #[{ on := 4, ground := Ground.data }, { on := 11, ground := Ground.chain }, { on := 0, ground := Ground.phase }, { on := 1, ground := Ground.phase }, { on := 2, ground := Ground.phase }, { on := 3, ground := Ground.phase }, { on := 4, ground := Ground.phase }, { on := 5, ground := Ground.textOnly Departure.lateStores }, { on := 6, ground := Ground.textOnly Departure.lateStores }, { on := 7, ground := Ground.textOnly Departure.lateStoresUnsure }, { on := 8, ground := Ground.textOnly Departure.lateStores }, { on := 9, ground := Ground.textOnly Departure.lateStores }, { on := 10, ground := Ground.textOnly Departure.lateStores }, { on := 11, ground := Ground.textOnly Departure.lateStoresUnsure }, { on := 12, ground := Ground.textOnly Departure.lateStores }], guard := none })) (v := ?v172) rfl (by kernel_rfl) (by kernel_rfl) (by kernel_rfl) (fun _ _ _ h => h) (Or.inl ⟨by rfl, ?hy172⟩) hHeld ?rest172
              case hy172 => (intro w' hSw; (try dsimp only at hSw); go_split_ands; go_simp; try with_reducible rfl)
              try simp only [Act.put, List.setIfInBounds_toArray, List.set_cons_zero, List.set_cons_succ]
              refine wpAnyH_take (i := 14) (oi := ({ dst := some 3, op := Op.assign (Operand.tmp 28), type := 3, pos := "l92_draw.go:343", after := #[{ on := 9, ground := Ground.data }, { on := 13, ground := Ground.chain }, { on := 0, ground := Ground.phase }, { on := 1, ground := Ground.phase }, { on := 2, ground := Ground.phase }, { on := 3, ground := Ground.phase }, { on := 4, ground := Ground.phase }, { on := 5, ground := Ground.phase }, { on := 6, ground := Ground.phase }, { on := 7, ground := Ground.phase }, { on := 8, ground := Ground.phase }, { on := 9, ground := Ground.phase }, { on := 10, ground := Ground.textOnly Departure.lateStores }, { on := 11, ground := Ground.textOnly Departure.lateStoresUnsure }, { on := 12, ground := Ground.textOnly Departure.lateStores }, { on := 13, ground := Ground.phase }], guard := none })) (v := ?v173) rfl (by kernel_rfl) (by kernel_rfl) (by kernel_rfl) (fun _ _ _ h => h) (Or.inl ⟨by rfl, ?hy173⟩) hHeld ?rest173
              case hy173 => (intro w' hSw; (try dsimp only at hSw); go_split_ands; go_simp; try with_reducible rfl)
              try simp only [Act.put, List.setIfInBounds_toArray, List.set_cons_zero, List.set_cons_succ]
              refine wpAnyH_take (i := 15) (oi := ({ dst := some 4, op := Op.assign (Operand.tmp 31), type := 3, pos := "l92_draw.go:343", after := #[{ on := 12, ground := Ground.data }, { on := 14, ground := Ground.chain }, { on := 0, ground := Ground.phase }, { on := 1, ground := Ground.phase }, { on := 2, ground := Ground.phase }, { on := 3, ground := Ground.phase }, { on := 4, ground := Ground.phase }, { on := 5, ground := Ground.phase }, { on := 6, ground := Ground.phase }, { on := 7, ground := Ground.phase }, { on := 8, ground := Ground.phase }, { on := 9, ground := Ground.phase }, { on := 10, ground := Ground.phase }, { on := 11, ground := Ground.phase }, { on := 12, ground := Ground.phase }, { on := 13, ground := Ground.phase }, { on := 14, ground := Ground.phase }], guard := none })) (v := ?v174) rfl (by kernel_rfl) (by kernel_rfl) (by kernel_rfl) (fun _ _ _ h => h) (Or.inl ⟨by rfl, ?hy174⟩) hHeld ?rest174
              case hy174 => (intro w' hSw; (try dsimp only at hSw); go_split_ands; go_simp; try with_reducible rfl)
              try simp only [Act.put, List.setIfInBounds_toArray, List.set_cons_zero, List.set_cons_succ]
              refine wpAnyH_done (by kernel_rfl) ?_ _
              clear hR s1 s2 l1 l2 n1 n2
              go_wp2
              go_ret3
              exact ⟨⟨_, _, _, rfl⟩, KW⟩
            exact AllReadyH.nil
          refine AllReadyH.cons (o := ({ dst := some 30, op := Op.call { callee := Callee.value (Operand.func 75), args := #[Operand.tmp 29, Operand.const (Value.int IntKind.i64 3)], argTypes := #[80, 3] }, type := 3, pos := "l92_draw.go:343", after := #[{ on := 10, ground := Ground.data }, { on := 7, ground := Ground.chain }], guard := none })) rfl (fun K hK => ?_) ?_
          ·
            go_simp
            refine (pick_any B 5 3 _ (by omega) (by omega) hR).mono ?_
            rintro e v175 ⟨i175, rfl, i0175, i1175, hRn, hon, _⟩
            obtain ⟨j3, rfl⟩ := Int.eq_ofNat_of_zero_le i0175
            replace s2 := (hon.cell (w4.heap.size) j2 l2 n2).trans s2
            replace l2 := Nat.lt_of_lt_of_le l2 hon.size
            replace KW := Only.keep hon KW (by omega)
            replace hR := hRn
            clear hRn hon
            go_simp
            refine hK.out _ _ s2 (fun hHeld => ?_)
            clear hK K
            try simp only [Act.put, List.setIfInBounds_toArray, List.set_cons_zero, List.set_cons_succ]
            refine wpAnyH_take (i := 12) (oi := ({ dst := some 31, op := Op.binOp BinOp.mul 3 (Operand.tmp 30) (Operand.const (Value.int IntKind.i64 6)) 3, type := 3, pos := "l92_draw.go:343", after := #[{ on := 11, ground := Ground.data }, { on := 14, ground := Ground.gcOnly Departure.lateStores }], guard := none })) (v := ?v176) rfl (by kernel_rfl) (by kernel_rfl) (by kernel_rfl) (fun _ _ _ h => h) (Or.inl ⟨by rfl, ?hy176⟩) hHeld ?rest176
            case hy176 => (intro w' hSw; (try dsimp only at hSw); go_split_ands; go_simp; try with_reducible rfl)
            try simp only [Act.put, List.setIfInBounds_toArray, List.set_cons_zero, List.set_cons_succ]
            refine wpAnyH_ready (rs := [0]) (by kernel_rfl) (by simp) ?_
            refine AllReadyH.cons (o := ({ dst := some 19, op := Op.buildSlice 27 3 #[(0, Operand.const (Value.int IntKind.i64 (-1000))), (1, Operand.const (Value.int IntKind.i64 (-999))), (2, Operand.const (Value.int IntKind.i64 10999))], type := 27, pos := "l92_draw.go:343", after := #[], guard := none })) rfl (fun K hK => ?_) ?_
            ·
              go_simp
              have hsz : v175.heap.size < (v175.alloc (.cells #[.int .i64 (-1000), .int .i64 (-999), .int .i64 10999] 3)).heap.size := by simp
              have hbe : v175.heap.size = v175.heap.size := by simp
              have F1 : ∀ x, x < 3 → (v175.alloc (.cells #[.int .i64 (-1000), .int .i64 (-999), .int .i64 10999] 3)).cell? ⟨v175.heap.size, x, none⟩ = some (.int .i64 ([-1000, -999, 10999].getD x 0)) := fun x hx => by rw [← hbe, World.cell?_alloc_new]; rcases (show x = 0 ∨ x = 1 ∨ x = 2 by omega) with rfl | rfl | rfl <;> rfl
              have l1 : v175.heap.size < (v175.alloc (.cells #[.int .i64 (-1000), .int .i64 (-999), .int .i64 10999] 3)).heap.size := by rw [← hbe]; exact hsz
              have n1 : v175.heap.size ≠ B := by rw [← hbe]; exact Nat.ne_of_gt hR.lt
              replace s2 := ((Keep.refl v175).alloc (.cells #[.int .i64 (-1000), .int .i64 (-999), .int .i64 10999] 3)).cell s2
              replace l2 := Nat.lt_trans l2 hsz
              replace hR := hR.alloc (.cells #[.int .i64 (-1000), .int .i64 (-999), .int .i64 10999] 3)
              replace KW := KW.alloc (.cells #[.int .i64 (-1000), .int .i64 (-999), .int .i64 10999] 3)
              clear hsz hbe
              refine hK.out _ _ s2 (fun hHeld => ?_)
              clear hK K
              try simp only [Act.put, List.setIfInBounds_toArray, List.set_cons_zero, List.set_cons_succ]
              obtain ⟨u1, hu1⟩ : ∃ u, [-1000, -999, 10999].getD j1 0 = u := ⟨_, rfl⟩
              have s1 := F1 j1 (by omega)
              rw [hu1] at s1
              clear hu1 F1
              refine wpAnyH_mono (S2 := fun w' => w'.cell? ⟨v175.heap.size, j1, none⟩ = some (.int .i64 u1) ∧ w'.cell? ⟨w4.heap.size, j2, none⟩ = some (.int .i64 u2)) (fun _ h => h.2) _ _ _ _ ?_
              have hHeld : (fun w' => w'.cell? ⟨v175.heap.size, j1, none⟩ = some (.int .i64 u1) ∧ w'.cell? ⟨w4.heap.size, j2, none⟩ = some (.int .i64 u2)) (v175.alloc (.cells #[.int .i64 (-1000), .int .i64 (-999), .int .i64 10999] 3)) := ⟨s1, s2⟩
              refine wpAnyH_take (i := 3) (oi := ({ dst := some 22, op := Op.indexAddr 27 (Operand.tmp 19) (Operand.tmp 21), type := 0, pos := "l92_draw.go:343", after := #[{ on := 0, ground := Ground.data }, { on := 2, ground := Ground.data }], guard := none })) (v := ?v177) rfl (by kernel_rfl) (by kernel_rfl) (by kernel_rfl) (fun _ _ _ h => h) (Or.inl ⟨by rfl, ?hy177⟩) hHeld ?rest177
              case hy177 => (intro w' hSw; (try dsimp only at hSw); go_split_ands; go_simp; try with_reducible rfl)
              try simp only [Act.put, List.setIfInBounds_toArray, List.set_cons_zero, List.set_cons_succ]
              refine wpAnyH_take (i := 4) (oi := ({ dst := some 23, op := Op.load 3 (Operand.tmp 22), type := 3, pos := "l92_draw.go:343", after := #[{ on := 3, ground := Ground.data }], guard := none })) (v := ?v178) rfl (by kernel_rfl) (by kernel_rfl) (by kernel_rfl) (fun _ _ _ h => h) (Or.inl ⟨by rfl, ?hy178⟩) hHeld ?rest178
              case hy178 => (intro w' hSw; (try dsimp only at hSw); go_split_ands; go_simp; try with_reducible rfl)
              try simp only [Act.put, List.setIfInBounds_toArray, List.set_cons_zero, List.set_cons_succ]
              refine wpAnyH_take (i := 13) (oi := ({ dst := some 2, op := Op.assign (Operand.tmp 23), type := 3, pos := "l92_draw.go:343", after := #[{ on := 4, ground := Ground.data }, { on := 11, ground := Ground.chain }, { on := 0, ground := Ground.phase }, { on := 1, ground := Ground.phase }, { on := 2, ground := Ground.phase }, { on := 3, ground := Ground.phase }, { on := 4, ground := Ground.phase }, { on := 5, ground := Ground.textOnly Departure.lateStores }, { on := 6, ground := Ground.textOnly Departure.lateStores }, { on := 7, ground := Ground.textOnly Departure.lateStoresUnsure }, { on := 8, ground := Ground.textOnly Departure.lateStores }, { on := 9, ground := Ground.textOnly Departure.lateStores }, { on := 10, ground := Ground.textOnly Departure.lateStores }, { on := 11, ground := Ground.textOnly Departure.lateStoresUnsure }, { on := 12, ground := Ground.textOnly Departure.lateStores }], guard := none })) (v := ?v179) rfl (by kernel_rfl) (by kernel_rfl) (by kernel_rfl) (fun _ _ _ h => h) (Or.inl ⟨by rfl, ?hy179⟩) hHeld ?rest179
              case hy179 => (intro w' hSw; (try dsimp only at hSw); go_split_ands; go_simp; try with_reducible rfl)
              try simp only [Act.put, List.setIfInBounds_toArray, List.set_cons_zero, List.set_cons_succ]
              refine wpAnyH_take (i := 14) (oi := ({ dst := some 3, op := Op.assign (Operand.tmp 28), type := 3, pos := "l92_draw.go:343", after := #[{ on := 9, ground := Ground.data }, { on := 13, ground := Ground.chain }, { on := 0, ground := Ground.phase }, { on := 1, ground := Ground.phase }, { on := 2, ground := Ground.phase }, { on := 3, ground := Ground.phase }, { on := 4, ground := Ground.phase }, { on := 5, ground := Ground.phase }, { on := 6, ground := Ground.phase }, { on := 7, ground := Ground.phase }, { on := 8, ground := Ground.phase }, { on := 9, ground := Ground.phase }, { on := 10, ground := Ground.textOnly Departure.lateStores }, { on := 11, ground := Ground.textOnly Departure.lateStoresUnsure }, { on := 12, ground := Ground.textOnly Departure.lateStores }, { on := 13, ground := Ground.phase }], guard := none })) (v := ?v180) rfl (by kernel_rfl) (by kernel_rfl) (by kernel_rfl) (fun _ _ _ h => h) (Or.inl ⟨by rfl, ?hy180⟩) hHeld ?rest180
              case hy180 => (intro w' hSw; (try dsimp only at hSw); go_split_ands; go_simp; try with_reducible rfl)
              try simp only [Act.put, List.setIfInBounds_toArray, List.set_cons_zero, List.set_cons_succ]
              refine wpAnyH_take (i := 15) (oi := ({ dst := some 4, op := Op.assign (Operand.tmp 31), type := 3, pos := "l92_draw.go:343", after := #[{ on := 12, ground := Ground.data }, { on := 14, ground := Ground.chain }, { on := 0, ground := Ground.phase }, { on := 1, ground := Ground.phase }, { on := 2, ground := Ground.phase }, { on := 3, ground := Ground.phase }, { on := 4, ground := Ground.phase }, { on := 5, ground := Ground.phase }, { on := 6, ground := Ground.phase }, { on := 7, ground := Ground.phase }, { on := 8, ground := Ground.phase }, { on := 9, ground := Ground.phase }, { on := 10, ground := Ground.phase }, { on := 11, ground := Ground.phase }, { on := 12, ground := Ground.phase }, { on := 13, ground := Ground.phase }, { on := 14, ground := Ground.phase }], guard := none })) (v := ?v181) rfl (by kernel_rfl) (by kernel_rfl) (by kernel_rfl) (fun _ _ _ h => h) (Or.inl ⟨by rfl, ?hy181⟩) hHeld ?rest181
              case hy181 => (intro w' hSw; (try dsimp only at hSw); go_split_ands; go_simp; try with_reducible rfl)
              try simp only [Act.put, List.setIfInBounds_toArray, List.set_cons_zero, List.set_cons_succ]
              refine wpAnyH_done (by kernel_rfl) ?_ _
              clear hR s1 s2 l1 l2 n1 n2
              go_wp2
              go_ret3
              exact ⟨⟨_, _, _, rfl⟩, KW⟩
            exact AllReadyH.nil
          exact AllReadyH.nil
        exact AllReadyH.nil
      exact AllReadyH.nil
    exact AllReadyH.nil
  · skip
    go_wp2_with fail
    refine (pick_any _ 3 61 _ (by omega) (by omega) hr4).mono ?_
    rintro e w5 ⟨t, rfl, t0, t1, hr5, ho5, hs5⟩
    have hk : Keep w w5 := Only.keep (((((Only.refl _ w1).trans ho2).trans ho3).trans ho4).trans ho5) hb (Nat.le_refl _)
    go_wp2
    go_ret3
    exact ⟨_, _, _, rfl, hk⟩
end Go.Proofs.Ytkiibklenpncpaa
