/- Whether a text ends with its check number, of any text: both sides. -/
import Derived.Test.YtpdpcnblpcalaaaDoorIe
import Derived.Test.YtpdpcnblpcalaaaDoorCut
namespace Go.Proofs.YtpdpcnblpcalaaaDoor
open Go.RowKit
set_option linter.unusedVariables false

def gX (p : ByteArray) (m : Nat) : Bool := (p.extract (m + 1) p.size).toList == (⟨(61 :: Lib.itoa (bsL (p.extract 0 m).data.toList : Int)).toArray⟩ : ByteArray).toList
set_option maxRecDepth 100000 in
set_option maxHeartbeats 2000000 in
theorem cf_yes (p : ByteArray) (m : Nat) (a : Addr) (w : World) (T : Tabs w) (ha : w.cell? ⟨0, 0, none⟩ = some (.iface 119 (.pointer (some a)))) (hp : p.size ≤ 1048576) (hm : m < p.size) (h32 : p[m] = 32) (hno : ∀ (j : Nat) (h : j < p.size), m < j → p[j] ≠ 32) (hx : gX p m = true) :
    Calls Tryd.prog 30 #[.string p] w fun e w' => e = .returned (.tuple #[.string (p.extract 0 m), .nilIface]) ∧ Keep w w' := by
  obtain ⟨u, hu⟩ : ∃ u, p.extract (m + 1) p.size = u := ⟨_, rfl⟩
  obtain ⟨x, hxx⟩ : ∃ x, p.extract 0 m = x := ⟨_, rfl⟩
  have hxs : x.size ≤ 1048576 := by rw [← hxx, ByteArray.size_extract]; omega
  unfold gX at hx
  rw [hu, hxx] at hx
  have hlt := bsL_lt x.data.toList
  have HSW := Lib.hid (fun W (hT : Tabs W) => sw_impl x W hT hxs)
  have HLI := Lib.hid (fun W => lb_any p m W hp hm h32 hno)
  generalize (⟨(61 :: Lib.itoa (bsL x.data.toList : Int)).toArray⟩ : ByteArray) = sw at *
  have m0 : (0 : Int) ≤ (m : Int) := by omega
  have m1 : ¬ (m : Int) < 0 := by omega
  have m1d : decide ((m : Int) < 0) = false := decide_eq_false m1
  have m2 : (m : Int) ≤ (p.size : Int) := by omega
  have m3 : (m : Int) + 1 ≤ (p.size : Int) := by omega
  have m4 : m ≤ p.size := by omega
  have m6 : (0 : Int) ≤ (m : Int) + 1 := by omega
  have m5 : m + 1 ≤ p.size := by omega
  have mw : IntKind.i64.wrap ((m : Int) + 1) = (m : Int) + 1 := IntWalk.i64_in _ (by omega)
  have HT := Lib.hid T
  have HGA := Lib.hid ha
  clear T h32 hno hlt ha
  have hq : u.toList = sw.toList := beq_iff_eq.1 hx
  go_enter Tryd.func30, Tryd.ntmps30
  go_wp2_with fail
  refine (HLI.out _).mono ?_
  rintro e w1 ⟨rfl, rfl⟩
  go_wp2_with fail
  go_region_held3 (fun w' => Keep w w') ((go_split_ands; (repeat' (first | with_reducible assumption | with_reducible exact Keep.refl _ | with_reducible refine Keep.drew ?_ | with_reducible refine Keep.drewN ?_ _ | with_reducible refine Keep.alloc ?_ _ | with_reducible refine Keep.trans ?_ hk))))
    (first | (go_at_call 44; refine (HSW.out _ (HT.out.keep (by (repeat' (first | with_reducible assumption | with_reducible exact Keep.refl _ | with_reducible refine Keep.drew ?_ | with_reducible refine Keep.drewN ?_ _ | with_reducible refine Keep.alloc ?_ _ | with_reducible refine Keep.trans ?_ hk))))).mono ?_; rintro e w' ⟨rfl, hk⟩; go_split_ands; have hK : Keep w w' := Keep.trans (by (repeat' (first | with_reducible assumption | with_reducible exact Keep.refl _ | with_reducible refine Keep.drew ?_ | with_reducible refine Keep.drewN ?_ _ | with_reducible refine Keep.alloc ?_ _ | with_reducible refine Keep.trans ?_ hk))) hk))
  all_goals
    go_wp2
    go_ret2
    exact ⟨by first | (rw [hxx]; done) | (rw [hxx]; rfl) | (simp [hxx]; done), hK⟩
set_option maxRecDepth 100000 in
set_option maxHeartbeats 2000000 in
theorem cf_not (p : ByteArray) (m : Nat) (a : Addr) (w : World) (T : Tabs w) (ha : w.cell? ⟨0, 0, none⟩ = some (.iface 119 (.pointer (some a)))) (hp : p.size ≤ 1048576) (hm : m < p.size) (h32 : p[m] = 32) (hno : ∀ (j : Nat) (h : j < p.size), m < j → p[j] ≠ 32) (hx : gX p m = false) :
    Calls Tryd.prog 30 #[.string p] w fun e w' => e = .returned (.tuple #[.string ⟨#[]⟩, (.iface 119 (.pointer (some a)))]) ∧ Keep w w' := by
  obtain ⟨u, hu⟩ : ∃ u, p.extract (m + 1) p.size = u := ⟨_, rfl⟩
  obtain ⟨x, hxx⟩ : ∃ x, p.extract 0 m = x := ⟨_, rfl⟩
  have hxs : x.size ≤ 1048576 := by rw [← hxx, ByteArray.size_extract]; omega
  unfold gX at hx
  rw [hu, hxx] at hx
  have hlt := bsL_lt x.data.toList
  have HSW := Lib.hid (fun W (hT : Tabs W) => sw_impl x W hT hxs)
  have HLI := Lib.hid (fun W => lb_any p m W hp hm h32 hno)
  generalize (⟨(61 :: Lib.itoa (bsL x.data.toList : Int)).toArray⟩ : ByteArray) = sw at *
  have m0 : (0 : Int) ≤ (m : Int) := by omega
  have m1 : ¬ (m : Int) < 0 := by omega
  have m1d : decide ((m : Int) < 0) = false := decide_eq_false m1
  have m2 : (m : Int) ≤ (p.size : Int) := by omega
  have m3 : (m : Int) + 1 ≤ (p.size : Int) := by omega
  have m4 : m ≤ p.size := by omega
  have m6 : (0 : Int) ≤ (m : Int) + 1 := by omega
  have m5 : m + 1 ≤ p.size := by omega
  have mw : IntKind.i64.wrap ((m : Int) + 1) = (m : Int) + 1 := IntWalk.i64_in _ (by omega)
  have HT := Lib.hid T
  have HGA := Lib.hid ha
  clear T h32 hno hlt ha
  have hq : ¬ u.toList = sw.toList := fun e => by rw [e] at hx; simp at hx
  go_enter Tryd.func30, Tryd.ntmps30
  go_wp2_with fail
  refine (HLI.out _).mono ?_
  rintro e w1 ⟨rfl, rfl⟩
  go_wp2_with fail
  go_region_held3 (fun w' => Keep w w') ((go_split_ands; (repeat' (first | with_reducible assumption | with_reducible exact Keep.refl _ | with_reducible refine Keep.drew ?_ | with_reducible refine Keep.drewN ?_ _ | with_reducible refine Keep.alloc ?_ _ | with_reducible refine Keep.trans ?_ hk))))
    (first | (go_at_call 44; refine (HSW.out _ (HT.out.keep (by (repeat' (first | with_reducible assumption | with_reducible exact Keep.refl _ | with_reducible refine Keep.drew ?_ | with_reducible refine Keep.drewN ?_ _ | with_reducible refine Keep.alloc ?_ _ | with_reducible refine Keep.trans ?_ hk))))).mono ?_; rintro e w' ⟨rfl, hk⟩; go_split_ands; have hK : Keep w w' := Keep.trans (by (repeat' (first | with_reducible assumption | with_reducible exact Keep.refl _ | with_reducible refine Keep.drew ?_ | with_reducible refine Keep.drewN ?_ _ | with_reducible refine Keep.alloc ?_ _ | with_reducible refine Keep.trans ?_ hk))) hk))
  all_goals
    go_wp2_with fail
    have hg := hK.cell HGA.out
    go_region_held3 (fun w'' => Keep w w'' ∧ w''.cell? ⟨0, 0, none⟩ = some (.iface 119 (.pointer (some a)))) ((go_split_ands; refine (fun hK => ⟨hK, hK.cell HGA.out⟩ : Keep w _ → _) ?_; (repeat' (first | with_reducible assumption | with_reducible exact Keep.refl _ | with_reducible refine Keep.drew ?_ | with_reducible refine Keep.drewN ?_ _ | with_reducible refine Keep.alloc ?_ _ | with_reducible refine Keep.trans ?_ hk)))) (fail)
    all_goals
      go_wp2
      go_ret2
      exact ⟨rfl, by (repeat' (first | with_reducible assumption | with_reducible exact Keep.refl _ | with_reducible refine Keep.drew ?_ | with_reducible refine Keep.drewN ?_ _ | with_reducible refine Keep.alloc ?_ _ | with_reducible refine Keep.trans ?_ hk))⟩
set_option maxHeartbeats 1000000 in
theorem li_none (p : ByteArray) (w : World) (hp : p.size ≤ 1048576) (hno : ∀ (j : Nat) (h : j < p.size), p[j] ≠ 32) :
    Calls Tryd.prog 60 #[.string p, .int .u8 32] w fun e w' => e = .returned (.int .i64 (-1)) ∧ w = w' := by
  have HNO := Lib.hid hno
  clear hno
  go_enter Tryd.func60, Tryd.ntmps60
  go_wp2_with fail
  go_loop [5] (fun i => ∃ k : Nat, k ≤ p.size ∧ i = .int .i64 ((k : Int) - 1)) (fun i => (RowKit.intOf i + 1).toNat)
  case atStart => exact ⟨p.size, by omega, by first | rfl | go_num⟩
  case round =>
    obtain ⟨k, hk, rfl⟩ := hrel
    by_cases h0 : k = 0
    · subst h0
      go_wp2
      go_ret
      exact ⟨rfl, rfl⟩
    · obtain ⟨i, rfl⟩ : ∃ i, k = i + 1 := ⟨k - 1, by omega⟩
      have hi : i < p.size := by omega
      have hne := HNO.out i hi
      have hb3 : ¬ p[i].toNat = 32 := fun e => hne (UInt8.toNat_inj.1 (by rw [e]; rfl))
      have hb : ¬ (p[i].toNat : Int) = 32 := by omega
      have hb2 : ((p[i].toNat : Int) == 32) = false := beq_eq_false_iff_ne.2 hb
      have e1 : ((i + 1 : Nat) : Int) - 1 = (i : Int) := by omega
      rw [e1]
      clear hne
      go_wp2
      go_round
      case rel => exact ⟨i, by omega, by first | rfl | go_num⟩
      case measure => first | (simp [RowKit.intOf]; done) | (simp [RowKit.intOf]; omega)
set_option maxHeartbeats 1000000 in
theorem lb_none (p : ByteArray) (w : World) (hp : p.size ≤ 1048576) (hno : ∀ (j : Nat) (h : j < p.size), p[j] ≠ 32) :
    Calls Tryd.prog 52 #[.string p, .int .u8 32] w fun e w' => e = .returned (.int .i64 (-1)) ∧ w = w' := by
  have HL := Lib.hid (fun W => li_none p W hp hno)
  clear hno
  go_enter Tryd.func52, Tryd.ntmps52
  go_wp2_with fail
  refine (HL.out _).mono ?_
  rintro e w1 ⟨rfl, rfl⟩
  go_wp2
  go_ret
  exact ⟨rfl, rfl⟩
set_option maxRecDepth 100000 in
set_option maxHeartbeats 2000000 in
theorem cf_none (p : ByteArray) (a : Addr) (w : World) (ha : w.cell? ⟨0, 0, none⟩ = some (.iface 119 (.pointer (some a)))) (hp : p.size ≤ 1048576) (hno : ∀ (j : Nat) (h : j < p.size), p[j] ≠ 32) :
    Calls Tryd.prog 30 #[.string p] w fun e w' => e = .returned (.tuple #[.string ⟨#[]⟩, (.iface 119 (.pointer (some a)))]) ∧ Keep w w' := by
  have HLI := Lib.hid (fun W => lb_none p W hp hno)
  have HGA := Lib.hid ha
  clear hno ha
  go_enter Tryd.func30, Tryd.ntmps30
  go_wp2_with fail
  refine (HLI.out _).mono ?_
  rintro e w1 ⟨rfl, rfl⟩
  go_wp2_with fail
  refine wp_region_held_drew (S := (fun w' => Keep w w')) (by kernel_rfl) ((Keep.refl w).drewN 1) (fun hHeld => ?_)
  refine wpAnyH_take (i := 0) (oi := ({ dst := some 7, op := Op.move (Operand.tmp 4), type := 3, pos := "l14_bulletins.go:115", after := #[], guard := none })) (v := ?v1) rfl (by kernel_rfl) (by kernel_rfl) (by kernel_rfl) (fun _ _ _ h => h) (Or.inl ⟨by rfl, ?hy1⟩) hHeld ?rest1
  case hy1 => (intro w' hSw; (try dsimp only at hSw); go_split_ands; go_simp; try with_reducible rfl)
  try simp only [Act.put, List.setIfInBounds_toArray, List.set_cons_zero, List.set_cons_succ]
  refine wpAnyH_take (i := 1) (oi := ({ dst := some 8, op := Op.binOp BinOp.lss 3 (Operand.tmp 7) (Operand.const (Value.int IntKind.i64 0)) 3, type := 4, pos := "l14_bulletins.go:115", after := #[{ on := 0, ground := Ground.data }], guard := none })) (v := ?v2) rfl (by kernel_rfl) (by kernel_rfl) (by kernel_rfl) (fun _ _ _ h => h) (Or.inl ⟨by rfl, ?hy2⟩) hHeld ?rest2
  case hy2 => (intro w' hSw; (try dsimp only at hSw); go_split_ands; go_simp; try with_reducible rfl)
  try simp only [Act.put, List.setIfInBounds_toArray, List.set_cons_zero, List.set_cons_succ]
  refine wpAnyH_take (i := 2) (oi := ({ dst := some 9, op := Op.move (Operand.tmp 8), type := 4, pos := "l14_bulletins.go:115", after := #[{ on := 1, ground := Ground.data }], guard := none })) (v := ?v3) rfl (by kernel_rfl) (by kernel_rfl) (by kernel_rfl) (fun _ _ _ h => h) (Or.inl ⟨by rfl, ?hy3⟩) hHeld ?rest3
  case hy3 => (intro w' hSw; (try dsimp only at hSw); go_split_ands; go_simp; try with_reducible rfl)
  try simp only [Act.put, List.setIfInBounds_toArray, List.set_cons_zero, List.set_cons_succ]
  refine wpAnyH_take (i := 3) (oi := ({ dst := some 10, op := Op.move (Operand.tmp 0), type := 9, pos := "l14_bulletins.go:115", after := #[{ on := 2, ground := Ground.guard }], guard := some (2, false) })) (v := undef) rfl (by kernel_rfl) (by kernel_rfl) (by kernel_rfl) (fun _ _ _ h => h) (Or.inr ⟨by first | kernel_rfl | rfl, rfl⟩) hHeld ?rest4
  try simp only [Act.put, List.setIfInBounds_toArray, List.set_cons_zero, List.set_cons_succ]
  refine wpAnyH_take (i := 4) (oi := ({ dst := some 11, op := Op.move (Operand.tmp 4), type := 3, pos := "l14_bulletins.go:115", after := #[{ on := 2, ground := Ground.guard }], guard := some (2, false) })) (v := undef) rfl (by kernel_rfl) (by kernel_rfl) (by kernel_rfl) (fun _ _ _ h => h) (Or.inr ⟨by first | kernel_rfl | rfl, rfl⟩) hHeld ?rest5
  try simp only [Act.put, List.setIfInBounds_toArray, List.set_cons_zero, List.set_cons_succ]
  refine wpAnyH_take (i := 5) (oi := ({ dst := some 12, op := Op.binOp BinOp.add 3 (Operand.tmp 11) (Operand.const (Value.int IntKind.i64 1)) 3, type := 3, pos := "l14_bulletins.go:115", after := #[{ on := 4, ground := Ground.data }, { on := 2, ground := Ground.guard }], guard := some (2, false) })) (v := undef) rfl (by kernel_rfl) (by kernel_rfl) (by kernel_rfl) (fun _ _ _ h => h) (Or.inr ⟨by first | kernel_rfl | rfl, rfl⟩) hHeld ?rest6
  try simp only [Act.put, List.setIfInBounds_toArray, List.set_cons_zero, List.set_cons_succ]
  refine wpAnyH_take (i := 6) (oi := ({ dst := some 13, op := Op.slice 9 (Operand.tmp 10) (some (Operand.tmp 12)) none none, type := 9, pos := "l14_bulletins.go:115", after := #[{ on := 3, ground := Ground.data }, { on := 5, ground := Ground.data }, { on := 2, ground := Ground.guard }], guard := some (2, false) })) (v := undef) rfl (by kernel_rfl) (by kernel_rfl) (by kernel_rfl) (fun _ _ _ h => h) (Or.inr ⟨by first | kernel_rfl | rfl, rfl⟩) hHeld ?rest7
  try simp only [Act.put, List.setIfInBounds_toArray, List.set_cons_zero, List.set_cons_succ]
  refine wpAnyH_take (i := 7) (oi := ({ dst := some 14, op := Op.move (Operand.tmp 0), type := 9, pos := "l14_bulletins.go:115", after := #[{ on := 2, ground := Ground.guard }], guard := some (2, false) })) (v := undef) rfl (by kernel_rfl) (by kernel_rfl) (by kernel_rfl) (fun _ _ _ h => h) (Or.inr ⟨by first | kernel_rfl | rfl, rfl⟩) hHeld ?rest8
  try simp only [Act.put, List.setIfInBounds_toArray, List.set_cons_zero, List.set_cons_succ]
  refine wpAnyH_take (i := 8) (oi := ({ dst := some 15, op := Op.move (Operand.tmp 4), type := 3, pos := "l14_bulletins.go:115", after := #[{ on := 2, ground := Ground.guard }], guard := some (2, false) })) (v := undef) rfl (by kernel_rfl) (by kernel_rfl) (by kernel_rfl) (fun _ _ _ h => h) (Or.inr ⟨by first | kernel_rfl | rfl, rfl⟩) hHeld ?rest9
  try simp only [Act.put, List.setIfInBounds_toArray, List.set_cons_zero, List.set_cons_succ]
  refine wpAnyH_take (i := 9) (oi := ({ dst := some 16, op := Op.slice 9 (Operand.tmp 14) none (some (Operand.tmp 15)) none, type := 9, pos := "l14_bulletins.go:115", after := #[{ on := 7, ground := Ground.data }, { on := 8, ground := Ground.data }, { on := 2, ground := Ground.guard }], guard := some (2, false) })) (v := undef) rfl (by kernel_rfl) (by kernel_rfl) (by kernel_rfl) (fun _ _ _ h => h) (Or.inr ⟨by first | kernel_rfl | rfl, rfl⟩) hHeld ?rest10
  try simp only [Act.put, List.setIfInBounds_toArray, List.set_cons_zero, List.set_cons_succ]
  refine wpAnyH_take (i := 10) (oi := ({ dst := some 17, op := Op.call { callee := Callee.value (Operand.func 44), args := #[Operand.tmp 16], argTypes := #[9] }, type := 9, pos := "l14_bulletins.go:115", after := #[{ on := 9, ground := Ground.data }, { on := 2, ground := Ground.chain }, { on := 2, ground := Ground.guard }], guard := some (2, false) })) (v := undef) rfl (by kernel_rfl) (by kernel_rfl) (by kernel_rfl) (fun _ _ _ h => h) (Or.inr ⟨by first | kernel_rfl | rfl, rfl⟩) hHeld ?rest11
  try simp only [Act.put, List.setIfInBounds_toArray, List.set_cons_zero, List.set_cons_succ]
  refine wpAnyH_take (i := 11) (oi := ({ dst := some 18, op := Op.binOp BinOp.neq 9 (Operand.tmp 13) (Operand.tmp 17) 9, type := 4, pos := "l14_bulletins.go:115", after := #[{ on := 6, ground := Ground.data }, { on := 10, ground := Ground.data }, { on := 2, ground := Ground.guard }], guard := some (2, false) })) (v := undef) rfl (by kernel_rfl) (by kernel_rfl) (by kernel_rfl) (fun _ _ _ h => h) (Or.inr ⟨by first | kernel_rfl | rfl, rfl⟩) hHeld ?rest12
  try simp only [Act.put, List.setIfInBounds_toArray, List.set_cons_zero, List.set_cons_succ]
  refine wpAnyH_take (i := 12) (oi := ({ dst := some 19, op := Op.pick (Operand.tmp 9) (Operand.const (Value.bool true)) (Operand.tmp 18), type := 4, pos := "l14_bulletins.go:115", after := #[{ on := 2, ground := Ground.data }, { on := 11, ground := Ground.data }], guard := none })) (v := ?v13) rfl (by kernel_rfl) (by kernel_rfl) (by kernel_rfl) (fun _ _ _ h => h) (Or.inl ⟨by rfl, ?hy13⟩) hHeld ?rest13
  case hy13 => (intro w' hSw; (try dsimp only at hSw); go_split_ands; go_simp; try with_reducible rfl)
  try simp only [Act.put, List.setIfInBounds_toArray, List.set_cons_zero, List.set_cons_succ]
  refine wpAnyH_done (by kernel_rfl) ?_ _
  go_wp2_with fail
  go_region_held3 (fun w'' => Keep w w'' ∧ w''.cell? ⟨0, 0, none⟩ = some (.iface 119 (.pointer (some a)))) ((go_split_ands; refine (fun hK => ⟨hK, hK.cell HGA.out⟩ : Keep w _ → _) ?_; (repeat' (first | with_reducible assumption | with_reducible exact Keep.refl _ | with_reducible refine Keep.drew ?_ | with_reducible refine Keep.drewN ?_ _ | with_reducible refine Keep.alloc ?_ _ | with_reducible refine Keep.trans ?_ hk)))) (fail)
  all_goals
    go_wp2
    go_ret2
    exact ⟨rfl, by (repeat' (first | with_reducible assumption | with_reducible exact Keep.refl _ | with_reducible refine Keep.drew ?_ | with_reducible refine Keep.drewN ?_ _ | with_reducible refine Keep.alloc ?_ _ | with_reducible refine Keep.trans ?_ hk))⟩

theorem bg_of (p : ByteArray) (w : World) (a : Addr) (ha : w.cell? ⟨0, 0, none⟩ = some (.iface 119 (.pointer (some a)))) (b : Bool) (x : ByteArray)
    (h : Calls Tryd.prog 30 #[.string p] w fun e w' => e = .returned (if b then .tuple #[.string x, .nilIface] else .tuple #[.string ⟨#[]⟩, (.iface 119 (.pointer (some a)))]) ∧ Keep w w') :
    Calls Tryd.prog 10 #[.string p] w fun e w' => e = .returned (.bool b) ∧ Keep w w' := by
  have HC := Lib.hid h
  have HI := Lib.hid (fun W => is_nil a W)
  have HJ := Lib.hid (fun W => is_same a W)
  clear h
  cases b
  · rw [if_neg (by decide)] at HC
    go_enter Tryd.func10, Tryd.ntmps10
    go_wp2_with fail
    refine HC.out.mono ?_
    rintro e w1 ⟨rfl, k1⟩
    have ha1 := k1.cell ha
    go_wp2_with fail
    refine (HJ.out _).mono ?_
    rintro e w2 ⟨rfl, rfl⟩
    go_wp2
    go_ret
    exact ⟨rfl, k1⟩
  · rw [if_pos rfl] at HC
    go_enter Tryd.func10, Tryd.ntmps10
    go_wp2_with fail
    refine HC.out.mono ?_
    rintro e w1 ⟨rfl, k1⟩
    have ha1 := k1.cell ha
    go_wp2_with fail
    refine (HI.out _).mono ?_
    rintro e w2 ⟨rfl, rfl⟩
    go_wp2
    go_ret
    exact ⟨rfl, k1⟩
theorem bg_at (p : ByteArray) (m : Nat) (w : World) (T : TabsE w) (hp : p.size ≤ 1048576) (hm : m < p.size) (h32 : p[m] = 32) (hno : ∀ (j : Nat) (h : j < p.size), m < j → p[j] ≠ 32) :
    Calls Tryd.prog 10 #[.string p] w fun e w' => e = .returned (.bool (gX p m)) ∧ Keep w w' := by
  obtain ⟨T1, a, ha⟩ := T
  rcases Bool.eq_false_or_eq_true (gX p m) with hx | hx
  · rw [hx]
    exact bg_of p w a ha true (p.extract 0 m) ((cf_yes p m a w T1 ha hp hm h32 hno hx).mono fun e w' h => ⟨h.1, h.2⟩)
  · rw [hx]
    exact bg_of p w a ha false ⟨#[]⟩ ((cf_not p m a w T1 ha hp hm h32 hno hx).mono fun e w' h => ⟨h.1, h.2⟩)
theorem bg_none (p : ByteArray) (w : World) (T : TabsE w) (hp : p.size ≤ 1048576) (hno : ∀ (j : Nat) (h : j < p.size), p[j] ≠ 32) :
    Calls Tryd.prog 10 #[.string p] w fun e w' => e = .returned (.bool false) ∧ Keep w w' := by
  obtain ⟨T1, a, ha⟩ := T
  exact bg_of p w a ha false ⟨#[]⟩ ((cf_none p a w ha hp hno).mono fun e w' h => ⟨h.1, h.2⟩)
end Go.Proofs.YtpdpcnblpcalaaaDoor
