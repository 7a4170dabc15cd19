/- P61: a changed byte is noticed (with the texts XIe, XBge, XBgs, XBdm merged in: a claim has sixty files at most). -/
import Derived.Test.YtcfffgbnkjclfaaDoorGd
import Derived.Test.YtcfffgbnkjclfaaDoorCut
import Derived.Test.YtcfffgbnkjclfaaDoorDrBt
import Derived.Test.YtcfffgbnkjclfaaDoorTe
import Derived.Test.YtcfffgbnkjclfaaDoorFr
import Derived.WalkKit
import Derived.LaidEql
import Derived.Stop.Asserts
import Derived.RowKitTokens
namespace Go.Proofs.YtcfffgbnkjclfaaDoor
section
open Go.RowKit Go.Extern.Stop Go.Stop Go.Extern
set_option linter.unusedVariables false

theorem isTypeOf' (v : Value) (w : World) : (ReflectliteType.typeOf #[.iface 122 v]).run Tryd.prog w = .ok (.iface 95 (.agg #[.pointer (some ⟨5, 122, none⟩)])) w := by kernel_rfl
def cmpFn := ReflectliteType.method fun t => do Rtype.noPackHeld "Comparable" t; pure (.bool (← typeInfo t).comparable)
theorem isComparable' (w : World) : (cmpFn #[.agg #[.pointer (some ⟨5, 122, none⟩)]]).run Tryd.prog w = .ok (.bool true) w := by kernel_rfl
theorem isMethodC (v : Value) (w : World) : (Go.method 258 95 v "Comparable").run Tryd.prog w = .ok (105, v) w := by kernel_rfl
theorem isComp' : (Tryd.prog.info? 122).map (·.comparable) = some true := by kernel_rfl
theorem isSize' : (Tryd.prog.info? 146).map (·.size) = some 1 := by kernel_rfl
set_option maxRecDepth 100000 in
set_option maxHeartbeats 2000000 in
theorem is_in (a : Addr) (w : World) :
    Calls Tryd.prog 62 #[.iface 122 (.pointer (some a)), .iface 122 (.pointer (some a)), .bool true] w fun e w' => e = .returned (.bool true) ∧ w = w' := by
  obtain ⟨i, hi, hcmp⟩ := Option.map_eq_some_iff.1 isComp'
  obtain ⟨j, hj, hjs⟩ := Option.map_eq_some_iff.1 isSize'
  have heq := run_eql_iface_ptr_same (P := Tryd.prog) w a Tryd.underlying55 Tryd.underlying122 hi hcmp hj
  go_enter Tryd.func62, Tryd.ntmps62
  go_wp2_with fail
  refine wp_loop_rounds 1 ?_
  rw [rounds_succ]
  go_wp2
  go_ret
  exact ⟨rfl, rfl⟩
set_option maxRecDepth 100000 in
set_option maxHeartbeats 2000000 in
theorem is_same (a : Addr) (w : World) :
    Calls Tryd.prog 40 #[.iface 122 (.pointer (some a)), .iface 122 (.pointer (some a))] w fun e w' => e = .returned (.bool true) ∧ w = w' := by
  have h8 := @run_callFunc_extern Tryd.prog 61 _ ReflectliteType.typeOf Tryd.func61 (by kernel_rfl) (by kernel_rfl) (by kernel_rfl) (by kernel_rfl)
  have h32 := @run_callFunc_extern Tryd.prog 105 _ cmpFn Tryd.func105 (by kernel_rfl) (by kernel_rfl) (by kernel_rfl) (by kernel_rfl)
  have tT := isTypeOf'
  have cT := isComparable'
  have mR := isMethodC
  have HI := Lib.hid (fun W => is_in a W)
  go_enter Tryd.func40, Tryd.ntmps40
  go_wp2_with fail
  refine (HI.out _).mono ?_
  rintro e w1 ⟨rfl, rfl⟩
  go_wp2
  go_ret
  exact ⟨rfl, rfl⟩
end
section
open Go.RowKit
set_option linter.unusedVariables false

def gX (p : ByteArray) (m : Nat) : Bool := (p.extract (m + 1) p.size).toList == (⟨(61 :: Lib.itoa (bsL (p.extract 0 m).data.toList : Int)).toArray⟩ : ByteArray).toList
set_option maxRecDepth 100000 in
set_option maxHeartbeats 2000000 in
theorem cf_yes (p : ByteArray) (m : Nat) (a : Addr) (w : World) (T : Tabs w) (ha : w.cell? ⟨0, 0, none⟩ = some (.iface 122 (.pointer (some a)))) (hp : p.size ≤ 1048576) (hm : m < p.size) (h32 : p[m] = 32) (hno : ∀ (j : Nat) (h : j < p.size), m < j → p[j] ≠ 32) (hx : gX p m = true) :
    Calls Tryd.prog 42 #[.string p] w fun e w' => e = .returned (.tuple #[.string (p.extract 0 m), .nilIface]) ∧ Keep w w' := by
  obtain ⟨u, hu⟩ : ∃ u, p.extract (m + 1) p.size = u := ⟨_, rfl⟩
  obtain ⟨x, hxx⟩ : ∃ x, p.extract 0 m = x := ⟨_, rfl⟩
  have hxs : x.size ≤ 1048576 := by rw [← hxx, ByteArray.size_extract]; omega
  unfold gX at hx
  rw [hu, hxx] at hx
  have hlt := bsL_lt x.data.toList
  have HSW := Lib.hid (fun W (hT : Tabs W) => sw_impl x W hT hxs)
  have HLI := Lib.hid (fun W => lb_any p m W hp hm h32 hno)
  generalize (⟨(61 :: Lib.itoa (bsL x.data.toList : Int)).toArray⟩ : ByteArray) = sw at *
  have m0 : (0 : Int) ≤ (m : Int) := by omega
  have m1 : ¬ (m : Int) < 0 := by omega
  have m1d : decide ((m : Int) < 0) = false := decide_eq_false m1
  have m2 : (m : Int) ≤ (p.size : Int) := by omega
  have m3 : (m : Int) + 1 ≤ (p.size : Int) := by omega
  have m4 : m ≤ p.size := by omega
  have m6 : (0 : Int) ≤ (m : Int) + 1 := by omega
  have m5 : m + 1 ≤ p.size := by omega
  have mw : IntKind.i64.wrap ((m : Int) + 1) = (m : Int) + 1 := IntWalk.i64_in _ (by omega)
  have HT := Lib.hid T
  have HGA := Lib.hid ha
  clear T h32 hno hlt ha
  have hq : u.toList = sw.toList := beq_iff_eq.1 hx
  go_enter Tryd.func42, Tryd.ntmps42
  go_wp2_with fail
  refine (HLI.out _).mono ?_
  rintro e w1 ⟨rfl, rfl⟩
  go_wp2_with fail
  go_region_held3 (fun w' => Keep w w') ((go_split_ands; (repeat' (first | with_reducible assumption | with_reducible exact Keep.refl _ | with_reducible refine Keep.drew ?_ | with_reducible refine Keep.drewN ?_ _ | with_reducible refine Keep.alloc ?_ _ | with_reducible refine Keep.trans ?_ hk))))
    (first | (go_at_call 55; refine (HSW.out _ (HT.out.keep (by (repeat' (first | with_reducible assumption | with_reducible exact Keep.refl _ | with_reducible refine Keep.drew ?_ | with_reducible refine Keep.drewN ?_ _ | with_reducible refine Keep.alloc ?_ _ | with_reducible refine Keep.trans ?_ hk))))).mono ?_; rintro e w' ⟨rfl, hk⟩; go_split_ands; have hK : Keep w w' := Keep.trans (by (repeat' (first | with_reducible assumption | with_reducible exact Keep.refl _ | with_reducible refine Keep.drew ?_ | with_reducible refine Keep.drewN ?_ _ | with_reducible refine Keep.alloc ?_ _ | with_reducible refine Keep.trans ?_ hk))) hk))
  all_goals
    go_wp2
    go_ret2
    exact ⟨by first | (rw [hxx]; done) | (rw [hxx]; rfl) | (simp [hxx]; done), hK⟩
set_option maxRecDepth 100000 in
set_option maxHeartbeats 2000000 in
theorem cf_not (p : ByteArray) (m : Nat) (a : Addr) (w : World) (T : Tabs w) (ha : w.cell? ⟨0, 0, none⟩ = some (.iface 122 (.pointer (some a)))) (hp : p.size ≤ 1048576) (hm : m < p.size) (h32 : p[m] = 32) (hno : ∀ (j : Nat) (h : j < p.size), m < j → p[j] ≠ 32) (hx : gX p m = false) :
    Calls Tryd.prog 42 #[.string p] w fun e w' => e = .returned (.tuple #[.string ⟨#[]⟩, (.iface 122 (.pointer (some a)))]) ∧ Keep w w' := by
  obtain ⟨u, hu⟩ : ∃ u, p.extract (m + 1) p.size = u := ⟨_, rfl⟩
  obtain ⟨x, hxx⟩ : ∃ x, p.extract 0 m = x := ⟨_, rfl⟩
  have hxs : x.size ≤ 1048576 := by rw [← hxx, ByteArray.size_extract]; omega
  unfold gX at hx
  rw [hu, hxx] at hx
  have hlt := bsL_lt x.data.toList
  have HSW := Lib.hid (fun W (hT : Tabs W) => sw_impl x W hT hxs)
  have HLI := Lib.hid (fun W => lb_any p m W hp hm h32 hno)
  generalize (⟨(61 :: Lib.itoa (bsL x.data.toList : Int)).toArray⟩ : ByteArray) = sw at *
  have m0 : (0 : Int) ≤ (m : Int) := by omega
  have m1 : ¬ (m : Int) < 0 := by omega
  have m1d : decide ((m : Int) < 0) = false := decide_eq_false m1
  have m2 : (m : Int) ≤ (p.size : Int) := by omega
  have m3 : (m : Int) + 1 ≤ (p.size : Int) := by omega
  have m4 : m ≤ p.size := by omega
  have m6 : (0 : Int) ≤ (m : Int) + 1 := by omega
  have m5 : m + 1 ≤ p.size := by omega
  have mw : IntKind.i64.wrap ((m : Int) + 1) = (m : Int) + 1 := IntWalk.i64_in _ (by omega)
  have HT := Lib.hid T
  have HGA := Lib.hid ha
  clear T h32 hno hlt ha
  have hq : ¬ u.toList = sw.toList := fun e => by rw [e] at hx; simp at hx
  go_enter Tryd.func42, Tryd.ntmps42
  go_wp2_with fail
  refine (HLI.out _).mono ?_
  rintro e w1 ⟨rfl, rfl⟩
  go_wp2_with fail
  go_region_held3 (fun w' => Keep w w') ((go_split_ands; (repeat' (first | with_reducible assumption | with_reducible exact Keep.refl _ | with_reducible refine Keep.drew ?_ | with_reducible refine Keep.drewN ?_ _ | with_reducible refine Keep.alloc ?_ _ | with_reducible refine Keep.trans ?_ hk))))
    (first | (go_at_call 55; refine (HSW.out _ (HT.out.keep (by (repeat' (first | with_reducible assumption | with_reducible exact Keep.refl _ | with_reducible refine Keep.drew ?_ | with_reducible refine Keep.drewN ?_ _ | with_reducible refine Keep.alloc ?_ _ | with_reducible refine Keep.trans ?_ hk))))).mono ?_; rintro e w' ⟨rfl, hk⟩; go_split_ands; have hK : Keep w w' := Keep.trans (by (repeat' (first | with_reducible assumption | with_reducible exact Keep.refl _ | with_reducible refine Keep.drew ?_ | with_reducible refine Keep.drewN ?_ _ | with_reducible refine Keep.alloc ?_ _ | with_reducible refine Keep.trans ?_ hk))) hk))
  all_goals
    go_wp2_with fail
    have hg := hK.cell HGA.out
    go_region_held3 (fun w'' => Keep w w'' ∧ w''.cell? ⟨0, 0, none⟩ = some (.iface 122 (.pointer (some a)))) ((go_split_ands; refine (fun hK => ⟨hK, hK.cell HGA.out⟩ : Keep w _ → _) ?_; (repeat' (first | with_reducible assumption | with_reducible exact Keep.refl _ | with_reducible refine Keep.drew ?_ | with_reducible refine Keep.drewN ?_ _ | with_reducible refine Keep.alloc ?_ _ | with_reducible refine Keep.trans ?_ hk)))) (fail)
    all_goals
      go_wp2
      go_ret2
      exact ⟨rfl, by (repeat' (first | with_reducible assumption | with_reducible exact Keep.refl _ | with_reducible refine Keep.drew ?_ | with_reducible refine Keep.drewN ?_ _ | with_reducible refine Keep.alloc ?_ _ | with_reducible refine Keep.trans ?_ hk))⟩
set_option maxHeartbeats 1000000 in
theorem li_none (p : ByteArray) (w : World) (hp : p.size ≤ 1048576) (hno : ∀ (j : Nat) (h : j < p.size), p[j] ≠ 32) :
    Calls Tryd.prog 69 #[.string p, .int .u8 32] w fun e w' => e = .returned (.int .i64 (-1)) ∧ w = w' := by
  have HNO := Lib.hid hno
  clear hno
  go_enter Tryd.func69, Tryd.ntmps69
  go_wp2_with fail
  go_loop [5] (fun i => ∃ k : Nat, k ≤ p.size ∧ i = .int .i64 ((k : Int) - 1)) (fun i => (RowKit.intOf i + 1).toNat)
  case atStart => exact ⟨p.size, by omega, by first | rfl | go_num⟩
  case round =>
    obtain ⟨k, hk, rfl⟩ := hrel
    by_cases h0 : k = 0
    · subst h0
      go_wp2
      go_ret
      exact ⟨rfl, rfl⟩
    · obtain ⟨i, rfl⟩ : ∃ i, k = i + 1 := ⟨k - 1, by omega⟩
      have hi : i < p.size := by omega
      have hne := HNO.out i hi
      have hb3 : ¬ p[i].toNat = 32 := fun e => hne (UInt8.toNat_inj.1 (by rw [e]; rfl))
      have hb : ¬ (p[i].toNat : Int) = 32 := by omega
      have hb2 : ((p[i].toNat : Int) == 32) = false := beq_eq_false_iff_ne.2 hb
      have e1 : ((i + 1 : Nat) : Int) - 1 = (i : Int) := by omega
      rw [e1]
      clear hne
      go_wp2
      go_round
      case rel => exact ⟨i, by omega, by first | rfl | go_num⟩
      case measure => first | (simp [RowKit.intOf]; done) | (simp [RowKit.intOf]; omega)
set_option maxHeartbeats 1000000 in
theorem lb_none (p : ByteArray) (w : World) (hp : p.size ≤ 1048576) (hno : ∀ (j : Nat) (h : j < p.size), p[j] ≠ 32) :
    Calls Tryd.prog 63 #[.string p, .int .u8 32] w fun e w' => e = .returned (.int .i64 (-1)) ∧ w = w' := by
  have HL := Lib.hid (fun W => li_none p W hp hno)
  clear hno
  go_enter Tryd.func63, Tryd.ntmps63
  go_wp2_with fail
  refine (HL.out _).mono ?_
  rintro e w1 ⟨rfl, rfl⟩
  go_wp2
  go_ret
  exact ⟨rfl, rfl⟩
set_option maxRecDepth 100000 in
set_option maxHeartbeats 2000000 in
theorem cf_none (p : ByteArray) (a : Addr) (w : World) (ha : w.cell? ⟨0, 0, none⟩ = some (.iface 122 (.pointer (some a)))) (hp : p.size ≤ 1048576) (hno : ∀ (j : Nat) (h : j < p.size), p[j] ≠ 32) :
    Calls Tryd.prog 42 #[.string p] w fun e w' => e = .returned (.tuple #[.string ⟨#[]⟩, (.iface 122 (.pointer (some a)))]) ∧ Keep w w' := by
  have HLI := Lib.hid (fun W => lb_none p W hp hno)
  have HGA := Lib.hid ha
  clear hno ha
  go_enter Tryd.func42, Tryd.ntmps42
  go_wp2_with fail
  refine (HLI.out _).mono ?_
  rintro e w1 ⟨rfl, rfl⟩
  go_wp2_with fail
  refine wp_region_held_drew (S := (fun w' => Keep w w')) (by kernel_rfl) ((Keep.refl w).drewN 1) (fun hHeld => ?_)
  refine wpAnyH_take (i := 0) (oi := ({ dst := some 7, op := Op.move (Operand.tmp 4), type := 3, pos := "l14_bulletins.go:115", after := #[], guard := none })) (v := ?v1) rfl (by kernel_rfl) (by kernel_rfl) (by kernel_rfl) (fun _ _ _ h => h) (Or.inl ⟨by rfl, ?hy1⟩) hHeld ?rest1
  case hy1 => (intro w' hSw; (try dsimp only at hSw); go_split_ands; go_simp; try with_reducible rfl)
  try simp only [Act.put, List.setIfInBounds_toArray, List.set_cons_zero, List.set_cons_succ]
  refine wpAnyH_take (i := 1) (oi := ({ dst := some 8, op := Op.binOp BinOp.lss 3 (Operand.tmp 7) (Operand.const (Value.int IntKind.i64 0)) 3, type := 4, pos := "l14_bulletins.go:115", after := #[{ on := 0, ground := Ground.data }], guard := none })) (v := ?v2) rfl (by kernel_rfl) (by kernel_rfl) (by kernel_rfl) (fun _ _ _ h => h) (Or.inl ⟨by rfl, ?hy2⟩) hHeld ?rest2
  case hy2 => (intro w' hSw; (try dsimp only at hSw); go_split_ands; go_simp; try with_reducible rfl)
  try simp only [Act.put, List.setIfInBounds_toArray, List.set_cons_zero, List.set_cons_succ]
  refine wpAnyH_take (i := 2) (oi := ({ dst := some 9, op := Op.move (Operand.tmp 8), type := 4, pos := "l14_bulletins.go:115", after := #[{ on := 1, ground := Ground.data }], guard := none })) (v := ?v3) rfl (by kernel_rfl) (by kernel_rfl) (by kernel_rfl) (fun _ _ _ h => h) (Or.inl ⟨by rfl, ?hy3⟩) hHeld ?rest3
  case hy3 => (intro w' hSw; (try dsimp only at hSw); go_split_ands; go_simp; try with_reducible rfl)
  try simp only [Act.put, List.setIfInBounds_toArray, List.set_cons_zero, List.set_cons_succ]
  refine wpAnyH_take (i := 3) (oi := ({ dst := some 10, op := Op.move (Operand.tmp 0), type := 9, pos := "l14_bulletins.go:115", after := #[{ on := 2, ground := Ground.guard }], guard := some (2, false) })) (v := undef) rfl (by kernel_rfl) (by kernel_rfl) (by kernel_rfl) (fun _ _ _ h => h) (Or.inr ⟨by first | kernel_rfl | rfl, rfl⟩) hHeld ?rest4
  try simp only [Act.put, List.setIfInBounds_toArray, List.set_cons_zero, List.set_cons_succ]
  refine wpAnyH_take (i := 4) (oi := ({ dst := some 11, op := Op.move (Operand.tmp 4), type := 3, pos := "l14_bulletins.go:115", after := #[{ on := 2, ground := Ground.guard }], guard := some (2, false) })) (v := undef) rfl (by kernel_rfl) (by kernel_rfl) (by kernel_rfl) (fun _ _ _ h => h) (Or.inr ⟨by first | kernel_rfl | rfl, rfl⟩) hHeld ?rest5
  try simp only [Act.put, List.setIfInBounds_toArray, List.set_cons_zero, List.set_cons_succ]
  refine wpAnyH_take (i := 5) (oi := ({ dst := some 12, op := Op.binOp BinOp.add 3 (Operand.tmp 11) (Operand.const (Value.int IntKind.i64 1)) 3, type := 3, pos := "l14_bulletins.go:115", after := #[{ on := 4, ground := Ground.data }, { on := 2, ground := Ground.guard }], guard := some (2, false) })) (v := undef) rfl (by kernel_rfl) (by kernel_rfl) (by kernel_rfl) (fun _ _ _ h => h) (Or.inr ⟨by first | kernel_rfl | rfl, rfl⟩) hHeld ?rest6
  try simp only [Act.put, List.setIfInBounds_toArray, List.set_cons_zero, List.set_cons_succ]
  refine wpAnyH_take (i := 6) (oi := ({ dst := some 13, op := Op.slice 9 (Operand.tmp 10) (some (Operand.tmp 12)) none none, type := 9, pos := "l14_bulletins.go:115", after := #[{ on := 3, ground := Ground.data }, { on := 5, ground := Ground.data }, { on := 2, ground := Ground.guard }], guard := some (2, false) })) (v := undef) rfl (by kernel_rfl) (by kernel_rfl) (by kernel_rfl) (fun _ _ _ h => h) (Or.inr ⟨by first | kernel_rfl | rfl, rfl⟩) hHeld ?rest7
  try simp only [Act.put, List.setIfInBounds_toArray, List.set_cons_zero, List.set_cons_succ]
  refine wpAnyH_take (i := 7) (oi := ({ dst := some 14, op := Op.move (Operand.tmp 0), type := 9, pos := "l14_bulletins.go:115", after := #[{ on := 2, ground := Ground.guard }], guard := some (2, false) })) (v := undef) rfl (by kernel_rfl) (by kernel_rfl) (by kernel_rfl) (fun _ _ _ h => h) (Or.inr ⟨by first | kernel_rfl | rfl, rfl⟩) hHeld ?rest8
  try simp only [Act.put, List.setIfInBounds_toArray, List.set_cons_zero, List.set_cons_succ]
  refine wpAnyH_take (i := 8) (oi := ({ dst := some 15, op := Op.move (Operand.tmp 4), type := 3, pos := "l14_bulletins.go:115", after := #[{ on := 2, ground := Ground.guard }], guard := some (2, false) })) (v := undef) rfl (by kernel_rfl) (by kernel_rfl) (by kernel_rfl) (fun _ _ _ h => h) (Or.inr ⟨by first | kernel_rfl | rfl, rfl⟩) hHeld ?rest9
  try simp only [Act.put, List.setIfInBounds_toArray, List.set_cons_zero, List.set_cons_succ]
  refine wpAnyH_take (i := 9) (oi := ({ dst := some 16, op := Op.slice 9 (Operand.tmp 14) none (some (Operand.tmp 15)) none, type := 9, pos := "l14_bulletins.go:115", after := #[{ on := 7, ground := Ground.data }, { on := 8, ground := Ground.data }, { on := 2, ground := Ground.guard }], guard := some (2, false) })) (v := undef) rfl (by kernel_rfl) (by kernel_rfl) (by kernel_rfl) (fun _ _ _ h => h) (Or.inr ⟨by first | kernel_rfl | rfl, rfl⟩) hHeld ?rest10
  try simp only [Act.put, List.setIfInBounds_toArray, List.set_cons_zero, List.set_cons_succ]
  refine wpAnyH_take (i := 10) (oi := ({ dst := some 17, op := Op.call { callee := Callee.value (Operand.func 55), args := #[Operand.tmp 16], argTypes := #[9] }, type := 9, pos := "l14_bulletins.go:115", after := #[{ on := 9, ground := Ground.data }, { on := 2, ground := Ground.chain }, { on := 2, ground := Ground.guard }], guard := some (2, false) })) (v := undef) rfl (by kernel_rfl) (by kernel_rfl) (by kernel_rfl) (fun _ _ _ h => h) (Or.inr ⟨by first | kernel_rfl | rfl, rfl⟩) hHeld ?rest11
  try simp only [Act.put, List.setIfInBounds_toArray, List.set_cons_zero, List.set_cons_succ]
  refine wpAnyH_take (i := 11) (oi := ({ dst := some 18, op := Op.binOp BinOp.neq 9 (Operand.tmp 13) (Operand.tmp 17) 9, type := 4, pos := "l14_bulletins.go:115", after := #[{ on := 6, ground := Ground.data }, { on := 10, ground := Ground.data }, { on := 2, ground := Ground.guard }], guard := some (2, false) })) (v := undef) rfl (by kernel_rfl) (by kernel_rfl) (by kernel_rfl) (fun _ _ _ h => h) (Or.inr ⟨by first | kernel_rfl | rfl, rfl⟩) hHeld ?rest12
  try simp only [Act.put, List.setIfInBounds_toArray, List.set_cons_zero, List.set_cons_succ]
  refine wpAnyH_take (i := 12) (oi := ({ dst := some 19, op := Op.pick (Operand.tmp 9) (Operand.const (Value.bool true)) (Operand.tmp 18), type := 4, pos := "l14_bulletins.go:115", after := #[{ on := 2, ground := Ground.data }, { on := 11, ground := Ground.data }], guard := none })) (v := ?v13) rfl (by kernel_rfl) (by kernel_rfl) (by kernel_rfl) (fun _ _ _ h => h) (Or.inl ⟨by rfl, ?hy13⟩) hHeld ?rest13
  case hy13 => (intro w' hSw; (try dsimp only at hSw); go_split_ands; go_simp; try with_reducible rfl)
  try simp only [Act.put, List.setIfInBounds_toArray, List.set_cons_zero, List.set_cons_succ]
  refine wpAnyH_done (by kernel_rfl) ?_ _
  go_wp2_with fail
  go_region_held3 (fun w'' => Keep w w'' ∧ w''.cell? ⟨0, 0, none⟩ = some (.iface 122 (.pointer (some a)))) ((go_split_ands; refine (fun hK => ⟨hK, hK.cell HGA.out⟩ : Keep w _ → _) ?_; (repeat' (first | with_reducible assumption | with_reducible exact Keep.refl _ | with_reducible refine Keep.drew ?_ | with_reducible refine Keep.drewN ?_ _ | with_reducible refine Keep.alloc ?_ _ | with_reducible refine Keep.trans ?_ hk)))) (fail)
  all_goals
    go_wp2
    go_ret2
    exact ⟨rfl, by (repeat' (first | with_reducible assumption | with_reducible exact Keep.refl _ | with_reducible refine Keep.drew ?_ | with_reducible refine Keep.drewN ?_ _ | with_reducible refine Keep.alloc ?_ _ | with_reducible refine Keep.trans ?_ hk))⟩

theorem bg_of (p : ByteArray) (w : World) (a : Addr) (ha : w.cell? ⟨0, 0, none⟩ = some (.iface 122 (.pointer (some a)))) (b : Bool) (x : ByteArray)
    (h : Calls Tryd.prog 42 #[.string p] w fun e w' => e = .returned (if b then .tuple #[.string x, .nilIface] else .tuple #[.string ⟨#[]⟩, (.iface 122 (.pointer (some a)))]) ∧ Keep w w') :
    Calls Tryd.prog 15 #[.string p] w fun e w' => e = .returned (.bool b) ∧ Keep w w' := by
  have HC := Lib.hid h
  have HI := Lib.hid (fun W => is_nil a W)
  have HJ := Lib.hid (fun W => is_same a W)
  clear h
  cases b
  · rw [if_neg (by decide)] at HC
    go_enter Tryd.func15, Tryd.ntmps15
    go_wp2_with fail
    refine HC.out.mono ?_
    rintro e w1 ⟨rfl, k1⟩
    have ha1 := k1.cell ha
    go_wp2_with fail
    refine (HJ.out _).mono ?_
    rintro e w2 ⟨rfl, rfl⟩
    go_wp2
    go_ret
    exact ⟨rfl, k1⟩
  · rw [if_pos rfl] at HC
    go_enter Tryd.func15, Tryd.ntmps15
    go_wp2_with fail
    refine HC.out.mono ?_
    rintro e w1 ⟨rfl, k1⟩
    have ha1 := k1.cell ha
    go_wp2_with fail
    refine (HI.out _).mono ?_
    rintro e w2 ⟨rfl, rfl⟩
    go_wp2
    go_ret
    exact ⟨rfl, k1⟩
theorem bg_at (p : ByteArray) (m : Nat) (w : World) (T : TabsE w) (hp : p.size ≤ 1048576) (hm : m < p.size) (h32 : p[m] = 32) (hno : ∀ (j : Nat) (h : j < p.size), m < j → p[j] ≠ 32) :
    Calls Tryd.prog 15 #[.string p] w fun e w' => e = .returned (.bool (gX p m)) ∧ Keep w w' := by
  obtain ⟨T1, a, ha⟩ := T
  rcases Bool.eq_false_or_eq_true (gX p m) with hx | hx
  · rw [hx]
    exact bg_of p w a ha true (p.extract 0 m) ((cf_yes p m a w T1 ha hp hm h32 hno hx).mono fun e w' h => ⟨h.1, h.2⟩)
  · rw [hx]
    exact bg_of p w a ha false ⟨#[]⟩ ((cf_not p m a w T1 ha hp hm h32 hno hx).mono fun e w' h => ⟨h.1, h.2⟩)
theorem bg_none (p : ByteArray) (w : World) (T : TabsE w) (hp : p.size ≤ 1048576) (hno : ∀ (j : Nat) (h : j < p.size), p[j] ≠ 32) :
    Calls Tryd.prog 15 #[.string p] w fun e w' => e = .returned (.bool false) ∧ Keep w w' := by
  obtain ⟨T1, a, ha⟩ := T
  exact bg_of p w a ha false ⟨#[]⟩ ((cf_none p a w ha hp hno).mono fun e w' h => ⟨h.1, h.2⟩)
end
section
open Go.RowKit
set_option linter.unusedVariables false

theorem words_at {L : List UInt8} {m : Nat} (hm : m < L.length) (h32 : L[m] = 32) (hno : ∀ (j : Nat) (h : j < L.length), m < j → L[j] ≠ 32) {ps : List ByteArray} (h : Words 32 L (ps.map (·.data.toList))) :
    ∃ k, ps.length = k + 2 ∧ (ps.getD (k + 1) ⟨#[]⟩).data.toList = L.drop (m + 1) := by
  obtain ⟨init, last, e1, e2, e3⟩ := h
  have hl : (32 : UInt8) ∉ last := e3 last (by rw [e1]; simp)
  rcases List.eq_nil_or_concat init with rfl | ⟨i', q, rfl⟩
  · have e4 : L = last := by simpa [flat] using e2
    have : (32 : UInt8) ∈ last := by rw [← e4, ← h32]; exact List.getElem_mem _
    exact absurd this hl
  · rw [List.concat_eq_append] at e1 e2
    rw [flat_snoc] at e2
    have e4 : L = (flat 32 i' ++ q) ++ 32 :: last := by rw [e2]; simp
    have hlen := congrArg List.length e1
    simp only [List.length_map, List.length_append, List.length_cons, List.length_nil] at hlen
    have hc : (flat 32 i' ++ q).length = m := by
      generalize flat 32 i' ++ q = A at e4
      subst e4
      rcases Nat.lt_trichotomy A.length m with h9 | h9 | h9
      · exfalso
        obtain ⟨t, ht⟩ : ∃ t, m - A.length = t + 1 := ⟨m - A.length - 1, by omega⟩
        rw [List.getElem_append_right (by omega)] at h32
        simp only [ht, List.getElem_cons_succ] at h32
        exact hl (by rw [← h32]; exact List.getElem_mem _)
      · exact h9
      · exfalso
        refine hno A.length (by simp) h9 ?_
        rw [List.getElem_append_right (Nat.le_refl _)]
        simp
    refine ⟨i'.length, by omega, ?_⟩
    have e5 : (ps.getD (i'.length + 1) ⟨#[]⟩).data.toList = (ps.map (·.data.toList)).getD (i'.length + 1) [] := by
      have : i'.length + 1 < ps.length := by omega
      simp [List.getD_eq_getElem?_getD, this]
    rw [e5, e1, e4, ← hc]
    have e6 : ((flat 32 i' ++ q) ++ 32 :: last).drop ((flat 32 i' ++ q).length + 1) = last := by
      rw [List.drop_append, List.drop_of_length_le (by omega), Nat.add_sub_cancel_left]; rfl
    rw [e6]
    simp [List.getD_eq_getElem?_getD]
theorem words_none {L : List UInt8} (hno : (32 : UInt8) ∉ L) {ps : List ByteArray} (h : Words 32 L (ps.map (·.data.toList))) : ps.length = 1 := by
  obtain ⟨init, last, e1, e2, e3⟩ := h
  rcases List.eq_nil_or_concat init with rfl | ⟨i', q, rfl⟩
  · have := congrArg List.length e1
    simpa using this
  · rw [List.concat_eq_append] at e2
    rw [flat_snoc] at e2
    exact absurd (by rw [e2]; simp) hno
theorem own_str {w : World} {base : Nat} {v : Value} {ps : List ByteArray} (h : w.ownsRow base 9 1 v ps.length (ps.map Value.string)) (h0 : 0 < ps.length) :
    ∃ g cap, v = .slice (some ⟨g, 0, none⟩) ps.length cap ∧ ∀ i, i < ps.length → w.cell? ⟨g, i, none⟩ = some (.string (ps.getD i ⟨#[]⟩)) := by
  obtain ⟨g, cap, hv, _, hlt⟩ := h.form h0
  refine ⟨g, cap, hv, fun i hi => ?_⟩
  have := h.cells (g := g) (by rw [hv]; rfl) i (.string (ps.getD i ⟨#[]⟩)) (by simp [hi, List.getD_eq_getElem?_getD])
  by_cases hi0 : i = 0
  · subst hi0; simpa [Addr.add] using this
  · simpa [Addr.add, hi0] using this
theorem own_max {w : World} {base : Nat} {v : Value} {ps : List ByteArray} (h : w.ownsRow base 9 1 v ps.length (ps.map Value.string)) (h0 : 0 < ps.length) : ps.length ≤ 9223372036854775807 := by
  rcases h.2 with ⟨_, hn⟩ | ⟨g, cap, cur, hv, hb, hg, h1, h2, _⟩
  · omega
  · unfold maxLen at h2; omega
set_option maxRecDepth 100000 in
set_option maxHeartbeats 2000000 in
theorem sg_at (p : ByteArray) (m : Nat) (w : World) (hp : p.size ≤ 1048576) (hm : m < p.size) (h32 : p[m] = 32) (hno : ∀ (j : Nat) (h : j < p.size), m < j → p[j] ≠ 32) :
    Calls Tryd.prog 22 #[.string p] w fun e w' => e = .returned (.bool (gX p m)) ∧ Keep w w' := by
  have HWA := Lib.hid (fun ps h => words_at (L := p.data.toList) (m := m) (by rw [ba_len]; exact hm) h32 (fun j h => hno j (by rw [ba_len] at h; exact h)) (ps := ps) h)
  have HCT := Lib.hid (cut_any p 32 w (by omega))
  clear h32 hno
  obtain ⟨x, hxx⟩ : ∃ x, p.extract 0 m = x := ⟨_, rfl⟩
  have hxs : x.size ≤ 1048576 := by rw [← hxx, ByteArray.size_extract]; omega
  have hlt := bsL_lt x.data.toList
  have HBS := Lib.hid (fun W => bs_spec x W (by omega))
  have HG : Hid (gX p m = ((p.extract (m + 1) p.size).toList == (⟨(61 :: Lib.itoa (bsL x.data.toList : Int)).toArray⟩ : ByteArray).toList)) := Lib.hid (by rw [← hxx]; rfl)
  generalize bsL x.data.toList = n at *
  have hds := dtx_size (n := (n : Int)) (by omega) (by omega)
  have HE : Hid ((⟨#[61]⟩ : ByteArray) ++ dtx n = ⟨(61 :: Lib.itoa (n : Int)).toArray⟩) := Lib.hid (bytes_eq (by simp [dtx_list]))
  rw [← HE.out] at HG
  go_enter Tryd.func22, Tryd.ntmps22
  go_wp2_with fail
  refine HCT.out.mono ?_
  rintro e w1 ⟨ps, v, rfl, hown, hW, k1, _⟩
  obtain ⟨k, hk, hla⟩ := HWA.out ps hW
  obtain ⟨g, cap, rfl, hc⟩ := own_str hown (by omega)
  have cl := hc (k + 1) (by omega)
  obtain ⟨u, hu⟩ : ∃ u, ps.getD (k + 1) ⟨#[]⟩ = u := ⟨_, rfl⟩
  rw [hu] at cl hla
  have hue : u = p.extract (m + 1) p.size := by
    refine (bytes_eq hla).trans (bytes_eq ?_).symm
    rw [ByteArray.data_extract, Array.toList_extract, List.extract_eq_take_drop, ← ba_len p, List.take_of_length_le (by rw [List.length_drop]; omega)]
  have hus : u.size + (m + 1) = p.size := by rw [hue, ByteArray.size_extract]; omega
  rw [← hue] at HG
  obtain ⟨N, hN⟩ : ∃ N, ps.length = N := ⟨_, rfl⟩
  rw [hN] at hk
  have hcn : N ≤ 9223372036854775807 := by rw [← hN]; exact own_max hown (by omega)
  have s1 : (N : Int) - 1 = ((k + 1 : Nat) : Int) := by omega
  have s2 : IntKind.i64.wrap ((N : Int) - 1) = ((k + 1 : Nat) : Int) := by rw [s1]; exact IntWalk.i64_in _ (by omega)
  have s3 : (0 : Int) ≤ ((k + 1 : Nat) : Int) := by omega
  have s4 : ((k + 1 : Nat) : Int) < (N : Int) := by omega
  have s5 : decide ((N : Int) < 2) = false := decide_eq_false (by omega)
  have s6 : ¬ (N : Int) < 2 := by omega
  have t1 : IntKind.i64.wrap ((p.size : Int) - (u.size : Int)) = (m : Int) + 1 := by
    rw [show (p.size : Int) - (u.size : Int) = (m : Int) + 1 by omega]; exact IntWalk.i64_in _ (by omega)
  have t2 : IntKind.i64.wrap (m : Int) = (m : Int) := IntWalk.i64_in _ (by omega)
  have t3 : (0 : Int) ≤ (m : Int) := by omega
  have t4 : (m : Int) ≤ (p.size : Int) := by omega
  have t5 : m ≤ p.size := by omega
  clear hown hW hc hla hue
  rw [hN]
  go_wp2_with fail
  try rw [hxx]
  refine (HBS.out _).mono ?_
  rintro e w2 ⟨rfl, rfl⟩
  go_wp2_with fail
  refine (dec_any _ _ (by omega) (by omega)).mono ?_
  rintro e w3 ⟨rfl, k3⟩
  go_wp2
  go_ret
  exact ⟨retB HG.out.symm, k1.trans k3⟩
set_option maxRecDepth 100000 in
set_option maxHeartbeats 2000000 in
theorem sg_none (p : ByteArray) (w : World) (hp : p.size ≤ 1048576) (hno : ∀ (j : Nat) (h : j < p.size), p[j] ≠ 32) :
    Calls Tryd.prog 22 #[.string p] w fun e w' => e = .returned (.bool false) ∧ Keep w w' := by
  have hn2 : (32 : UInt8) ∉ p.data.toList := fun h => by
    obtain ⟨j, hj, he⟩ := List.getElem_of_mem h
    exact hno j (by rw [ba_len] at hj; exact hj) he
  have HWN := Lib.hid (fun ps h => words_none hn2 (ps := ps) h)
  have HCT := Lib.hid (cut_any p 32 w (by omega))
  clear hno hn2
  go_enter Tryd.func22, Tryd.ntmps22
  go_wp2_with fail
  refine HCT.out.mono ?_
  rintro e w1 ⟨ps, v, rfl, hown, hW, k1, _⟩
  have hk := HWN.out ps hW
  obtain ⟨g, cap, rfl, hc⟩ := own_str hown (by omega)
  have cl := hc 0 (by omega)
  generalize ps.getD 0 ⟨#[]⟩ = u at *
  clear hown hW hc
  rw [hk]
  go_wp2
  go_ret
  exact ⟨rfl, k1⟩
end
section
open Go.RowKit
set_option linter.unusedVariables false

theorem bs_f_inj {s t b : Nat} (hs : s < 97) (ht : t < 97) (h : (31 * s + b) % 97 = (31 * t + b) % 97) : s = t := by omega
theorem bs_fold_ne : ∀ (B : List UInt8) {s t : Nat}, s < 97 → t < 97 → s ≠ t → B.foldl (fun n b => (31 * n + b.toNat) % 97) s ≠ B.foldl (fun n b => (31 * n + b.toNat) % 97) t
  | [], _, _, _, _, h => h
  | b :: B, s, t, hs, ht, h => by
    rw [List.foldl_cons, List.foldl_cons]
    exact bs_fold_ne B (Nat.mod_lt _ (by decide)) (Nat.mod_lt _ (by decide)) (fun e => h (bs_f_inj hs ht e))
theorem bs_change (A B : List UInt8) (c d : UInt8) (h : d.toNat = c.toNat + 1) : bsL (A ++ d :: B) ≠ bsL (A ++ c :: B) := by
  unfold bsL
  rw [List.foldl_append, List.foldl_append, List.foldl_cons, List.foldl_cons]
  exact bs_fold_ne B (Nat.mod_lt _ (by decide)) (Nat.mod_lt _ (by decide)) (by rw [h]; omega)
theorem itoa_inj97 : ∀ a b : Fin 97, decL 4 a.val = decL 4 b.val → a = b := by decide +kernel
theorem itoa_ne {a b : Nat} (ha : a < 97) (hb : b < 97) (h : a ≠ b) : Lib.itoa (a : Int) ≠ Lib.itoa (b : Int) := by
  rw [itoa_decL ha, itoa_decL hb]
  intro e
  exact h (congrArg Fin.val (itoa_inj97 ⟨a, ha⟩ ⟨b, hb⟩ e))
theorem ext_list (p : ByteArray) (i j : Nat) : (p.extract i j).data.toList = (p.data.toList.drop i).take (j - i) := by
  rw [ByteArray.data_extract, Array.toList_extract, List.extract_eq_take_drop]
/-- The text with the byte at k changed. -/
theorem ch_parts (p q : ByteArray) (m k : Nat) (hm : m < p.size) (hk : k < m) (d : UInt8) (hd : d.toNat = p[k].toNat + 1) (h32 : p[m] = 32) (hno : ∀ (j : Nat) (h : j < p.size), m < j → p[j] ≠ 32)
    (hq : q.data.toList = p.data.toList.take k ++ d :: p.data.toList.drop (k + 1)) :
    q.size = p.size ∧ (∀ hm' : m < q.size, q[m] = 32) ∧ (∀ (j : Nat) (h : j < q.size), m < j → q[j] ≠ 32) ∧ (gX p m = true → gX q m = false) := by
  have hpl := ba_len p
  have hkl : k < p.data.toList.length := by omega
  have hql : q.size = p.size := by
    rw [← ba_len q, hq, List.length_append, List.length_take, List.length_cons, List.length_drop]; omega
  have hset : q.data.toList = p.data.toList.set k d := by rw [hq, List.set_eq_take_append_cons_drop, if_pos hkl]
  have hat : ∀ (j : Nat) (h : j < q.size) (h' : j < p.size), j ≠ k → q[j] = p[j] := fun j h h' hj => by
    have e1 : q[j] = q.data.toList[j]'(by rw [ba_len]; exact h) := rfl
    have e2 : p[j] = p.data.toList[j]'(by rw [ba_len]; exact h') := rfl
    rw [e1, e2]
    simp only [hset]
    rw [List.getElem_set_ne (by omega)]
  refine ⟨hql, fun hm' => by rw [hat m hm' hm (by omega)]; exact h32, fun j h hj => by rw [hat j h (by omega) (by omega)]; exact hno j (by omega) hj, fun hg => ?_⟩
  have hb : q.extract (m + 1) q.size = p.extract (m + 1) p.size := by
    refine (bytes_eq (ext_list q _ _)).trans ((bytes_eq ?_).symm)
    rw [ext_list, hset, hql, List.drop_set_of_lt (by omega)]
  have hpk : p.data.toList.take m = p.data.toList.take k ++ p[k] :: (p.data.toList.drop (k + 1)).take (m - (k + 1)) := by
    have e2 : p[k] = p.data.toList[k]'hkl := rfl
    rw [e2]
    have e3 : p.data.toList = p.data.toList.take k ++ p.data.toList[k]'hkl :: p.data.toList.drop (k + 1) := by
      rw [← List.drop_eq_getElem_cons hkl, List.take_append_drop]
    conv => lhs; rw [e3]
    rw [List.take_append, List.take_of_length_le (by rw [List.length_take]; omega), List.length_take, Nat.min_eq_left (by omega)]
    obtain ⟨t, ht⟩ : ∃ t, m - k = t + 1 := ⟨m - k - 1, by omega⟩
    rw [ht, List.take_succ_cons, show m - (k + 1) = t by omega]
  have hqk : q.data.toList.take m = p.data.toList.take k ++ d :: (p.data.toList.drop (k + 1)).take (m - (k + 1)) := by
    rw [hq, List.take_append, List.take_of_length_le (by rw [List.length_take]; omega), List.length_take, Nat.min_eq_left (by omega)]
    obtain ⟨t, ht⟩ : ∃ t, m - k = t + 1 := ⟨m - k - 1, by omega⟩
    rw [ht, List.take_succ_cons, show m - (k + 1) = t by omega]
  have hne : bsL (q.extract 0 m).data.toList ≠ bsL (p.extract 0 m).data.toList := by
    rw [ext_list, ext_list, List.drop_zero, List.drop_zero, Nat.sub_zero, hpk, hqk]
    exact bs_change _ _ _ _ hd
  unfold gX at hg ⊢
  rw [hb]
  rw [beq_iff_eq] at hg
  rw [hg]
  rcases Bool.eq_false_or_eq_true ((⟨(61 :: Lib.itoa (bsL (p.extract 0 m).data.toList : Int)).toArray⟩ : ByteArray).toList == (⟨(61 :: Lib.itoa (bsL (q.extract 0 m).data.toList : Int)).toArray⟩ : ByteArray).toList) with h9 | h9
  · exfalso
    rw [beq_iff_eq, Lib.toList_data, Lib.toList_data] at h9
    simp only [List.cons.injEq, true_and] at h9
    exact itoa_ne (bsL_lt _) (bsL_lt _) hne h9.symm
  · exact h9
theorem enc_one : ∀ c : Fin 128, Utf8.encode ((c.val : Nat) : Int) = ⟨#[UInt8.ofNat c.val]⟩ := by decide +kernel
theorem enc_size : ∀ c : Fin 256, (Utf8.encode ((c.val : Nat) : Int)).size ≤ 2 := by decide +kernel
end
open Go.RowKit
set_option linter.unusedVariables false

theorem last_blank' (p : ByteArray) : (∀ (j : Nat) (h : j < p.size), p[j] ≠ 32) ∨ ∃ (m : Nat) (hm : m < p.size), p[m] = 32 ∧ ∀ (j : Nat) (h : j < p.size), m < j → p[j] ≠ 32 := by
  have key : ∀ n, n ≤ p.size → (∀ (j : Nat) (h : j < p.size), p.size - n ≤ j → p[j] ≠ 32) ∨ ∃ (m : Nat) (hm : m < p.size), p[m] = 32 ∧ ∀ (j : Nat) (h : j < p.size), m < j → p[j] ≠ 32 := by
    intro n
    induction n with
    | zero => intro _; exact .inl fun j h hj => absurd h (by omega)
    | succ n ih =>
      intro hn
      rcases ih (by omega) with h | h
      · by_cases hx : p[p.size - (n + 1)]'(by omega) = 32
        · exact .inr ⟨p.size - (n + 1), by omega, hx, fun j hj hlt => h j hj (by omega)⟩
        · refine .inl fun j hj hle => ?_
          by_cases e : j = p.size - (n + 1)
          · subst e; exact hx
          · exact h j hj (by omega)
      · exact .inr h
  rcases key p.size (Nat.le_refl _) with h | h
  · exact .inl fun j hj => h j hj (by omega)
  · exact .inr h
set_option maxRecDepth 1000000 in
set_option maxHeartbeats 6400000 in
theorem walk_FnBulletinDamage (a0 : Option Addr) (len0 cap0 : Nat) (z0 : List Int) (a1 : Option Addr) (len1 cap1 : Nat) (z1 : List Int) (w : World) (w0 : IsRow .u8 w a0 len0 cap0 z0) (w1 : IsRow .u8 w a1 len1 cap1 z1) (T : TabsE w) :
    Calls Tryd.prog 6 #[.slice a0 len0 cap0, .slice a1 len1 cap1] w fun e w' => e = .returned (.bool true) ∧ Below w.heap.size w w' := by
  have ha := code_of_row w0
  obtain ⟨hl0, hm0⟩ := ha.1
  unfold maxLen at hm0
  clear w0 w1
  have HT := Lib.hid T
  clear T
  by_cases h : len0 ≤ 1048576
  case' neg =>
    have hd : decide (1048576 < (len0 : Int)) = true := by simp; omega
    go_enter Tryd.func6, Tryd.ntmps6
    go_wp2
    go_ret
    exact ⟨rfl, Below.refl _ _⟩
  have hd : decide (1048576 < (len0 : Int)) = false := by simp; omega
  by_cases h1 : len1 ≤ 1048576
  case' neg =>
    have hd1 : decide (1048576 < (len1 : Int)) = true := by simp; omega
    go_enter Tryd.func6, Tryd.ntmps6
    go_wp2
    go_ret
    exact ⟨rfl, Below.refl _ _⟩
  have hd1 : decide (1048576 < (len1 : Int)) = false := by simp; omega
  go_enter Tryd.func6, Tryd.ntmps6
  go_wp2_with fail
  refine (drawBulletinGood a0 len0 cap0 _ ha).mono ?_
  rintro e w1 ⟨p, rfl, hp, k1⟩
  clear ha
  have HK1 := Lib.hid k1
  rcases last_blank' p with h9 | ⟨m, hm, h32, hno⟩
  · have H1 := Lib.hid (fun W hT => bg_none p W hT (by omega) h9)
    have H2 := Lib.hid (fun W => sg_none p W (by omega) h9)
    clear h9
    go_wp2_with fail
    refine (H1.out _ (HT.out.keep k1)).mono ?_
    rintro e w2 ⟨rfl, k2⟩
    go_wp2_with fail
    refine (H2.out _).mono ?_
    rintro e w3 ⟨rfl, k3⟩
    go_wp2
    go_ret
    exact ⟨rfl, (k1.trans k2).trans k3⟩
  have H1 := Lib.hid (fun W hT => bg_at p m W hT (by omega) hm h32 hno)
  have H2 := Lib.hid (fun W => sg_at p m W (by omega) hm h32 hno)
  go_wp2_with fail
  refine (H1.out _ (HT.out.keep k1)).mono ?_
  rintro e w2 ⟨rfl, k2⟩
  go_wp2_with fail
  refine (H2.out _).mono ?_
  rintro e w3 ⟨rfl, k3⟩
  have K3 : Keep w w3 := (k1.trans k2).trans k3
  clear H1 H2 k1 k2 k3 HK1
  rcases Bool.eq_false_or_eq_true (gX p m) with hg | hg
  case' inr =>
    rw [hg]
    go_wp2
    go_ret
    exact ⟨rfl, K3⟩
  rw [hg]
  have HG := Lib.hid hg
  have HNO := Lib.hid hno
  have H32 := Lib.hid h32
  clear hg hno h32
  obtain ⟨u, hu⟩ : ∃ u, p.size = u + 1 := ⟨p.size - 1, by omega⟩
  have hsub : (p.size : Int) - 1 = (u : Int) := by omega
  go_wp2_with fail
  go_loopw [8] (fun i wr => ∃ k : Nat, m ≤ k ∧ k < p.size ∧ i = .int .i64 k ∧ w3 = wr) (fun i _ => (RowKit.intOf i).toNat)
  case atStart => exact ⟨u, by omega, by omega, by first | rfl | go_num | (congr 1 <;> omega), rfl⟩
  case round =>
    obtain ⟨k, hk1, hk2, rfl, rfl⟩ := hrel
    by_cases hkm : k = m
    case' neg =>
      have hne := HNO.out k hk2 (by omega)
      have hb3 : ¬ p[k].toNat = 32 := fun e => hne (UInt8.toNat_inj.1 (by rw [e]; rfl))
      have hb : ¬ (p[k].toNat : Int) = 32 := by omega
      have hb2 : ((p[k].toNat : Int) != 32) = true := by simp; omega
      obtain ⟨i, rfl⟩ : ∃ i, k = i + 1 := ⟨k - 1, by omega⟩
      clear hne
      go_wp2
      go_roundw
      case rel => exact ⟨i, by omega, by omega, by go_num, by first | rfl | trivial⟩
      case measure => first | (simp [RowKit.intOf]; done) | (simp [RowKit.intOf]; omega)
    subst hkm
    have hb : (p[k].toNat : Int) = 32 := by simp [H32.out]
    have hb2 : ((p[k].toNat : Int) != 32) = false := by simp [H32.out]
    have hb3 : p[k].toNat = 32 := by simp [H32.out]
    obtain ⟨j, hj⟩ : ∃ j, len1 % (k + 1) = j := ⟨_, rfl⟩
    have hjk : j ≤ k := by have := Nat.mod_lt len1 (show 0 < k + 1 by omega); omega
    have hjm : Int.tmod (len1 : Int) ((k : Int) + 1) = (j : Int) := by
      rw [Int.tmod_eq_emod_of_nonneg (by omega), ← hj]; rfl
    have kw : IntKind.i64.wrap ((k : Int) + 1) = (k : Int) + 1 := IntWalk.i64_in _ (by omega)
    have kw0 : ¬ (k : Int) + 1 = 0 := by omega
    have kw1 : ((k : Int) + 1 == 0) = false := beq_eq_false_iff_ne.2 kw0
    have jw : IntKind.i64.wrap (j : Int) = (j : Int) := IntWalk.i64_in _ (by omega)
    clear hj
    by_cases hjk2 : j = k
    case' pos =>
      have hq : ((j : Int) == (k : Int)) = true := by subst hjk2; simp
      have hq2 : (j : Int) = (k : Int) := by omega
      subst hjk2
      go_wp2
      go_ret
      exact ⟨rfl, K3⟩
    have hq : ((j : Int) == (k : Int)) = false := by rw [beq_eq_false_iff_ne]; omega
    have hq2 : ¬ (j : Int) = (k : Int) := by omega
    have hlt : j < p.size := by omega
    have hlti : (j : Int) < (p.size : Int) := by omega
    obtain ⟨c, hc⟩ : ∃ c, p[j].toNat = c := ⟨_, rfl⟩
    have hc6 : c < 256 := by rw [← hc]; exact p[j].toNat_lt
    by_cases hc32 : c = 32
    case' pos =>
      have hb4 : (p[j].toNat : Int) = 32 := by omega
      have hb5 : ((p[j].toNat : Int) == 32) = true := beq_iff_eq.2 hb4
      go_wp2
      go_ret
      exact ⟨rfl, K3⟩
    have hb4 : ¬ (p[j].toNat : Int) = 32 := by omega
    have hb5 : ((p[j].toNat : Int) == 32) = false := beq_eq_false_iff_ne.2 hb4
    have hb6 : ¬ p[j].toNat = 32 := by omega
    obtain ⟨e, he⟩ : ∃ e, (c + 1) % 256 = e := ⟨_, rfl⟩
    have he6 : e < 256 := by omega
    have hw8 : IntKind.u8.wrap ((p[j].toNat : Int) + 1) = (e : Int) := by
      rw [hc]
      by_cases h255 : c = 255
      · subst h255; rw [← he]; rfl
      · rw [show (c : Int) + 1 = (e : Int) by omega]
        exact IntWalk.u8_in _ (by omega)
    have hw32 : IntKind.i32.wrap (e : Int) = (e : Int) := IntWalk.i32_in _ (by omega)
    have jw2 : IntKind.i64.wrap ((j : Int) + 1) = (j : Int) + 1 := IntWalk.i64_in _ (by omega)
    have j0 : (0 : Int) ≤ (j : Int) := by omega
    have j1 : (j : Int) ≤ (p.size : Int) := by omega
    have j2 : (0 : Int) ≤ (j : Int) + 1 := by omega
    have j3 : (j : Int) + 1 ≤ (p.size : Int) := by omega
    have j4 : j ≤ p.size := by omega
    have j5 : j + 1 ≤ p.size := by omega
    have hES := enc_size ⟨e, he6⟩
    have HE1 := Lib.hid (fun h : e < 128 => enc_one ⟨e, h⟩)
    dsimp only at hES HE1
    obtain ⟨en, hen⟩ : ∃ en, Utf8.encode ((e : Nat) : Int) = en := ⟨_, rfl⟩
    rw [hen] at hES HE1
    have HEN := Lib.hid hen
    have HHE := Lib.hid he
    have HHC := Lib.hid hc
    have HW8 := Lib.hid hw8
    have HW32 := Lib.hid hw32
    have HES := Lib.hid hES
    have JW2 := Lib.hid jw2
    clear hen he hu hsub hw8 hw32 hES jw2 hc j4 j5 j2 j3 j1 hc6 he6
    go_wp2_with fail
    have hen := HEN.out
    have hw8 := HW8.out
    have hw32 := HW32.out
    have hES := HES.out
    have jw2 := JW2.out
    have j1 : (j : Int) ≤ (p.size : Int) := by omega
    have j2 : (0 : Int) ≤ (j : Int) + 1 := by omega
    have j3 : (j : Int) + 1 ≤ (p.size : Int) := by omega
    have j4 : j ≤ p.size := by omega
    have j5 : j + 1 ≤ p.size := by omega
    have x1 : ¬ 9223372036854775807 < min j p.size + en.size := by omega
    have x2 : ¬ 9223372036854775807 < min j p.size + en.size + (p.size - (j + 1)) := by omega
    have x3 : ¬ 9223372036854775807 < j + en.size := by omega
    have x4 : ¬ 9223372036854775807 < j + en.size + (p.size - (j + 1)) := by omega
    go_region_held3 (fun w' => Keep w w') ((go_split_ands; (repeat' (first | with_reducible assumption | with_reducible exact Keep.refl _ | with_reducible refine Keep.drew ?_ | with_reducible refine Keep.drewN ?_ _ | with_reducible refine Keep.alloc ?_ _)))) (fail)
    all_goals
      have KD : Keep w w3.drew := K3.drewN 1
      obtain ⟨q, hqe⟩ : ∃ q, p.extract 0 j ++ en ++ p.extract (j + 1) p.size = q := ⟨_, rfl⟩
      rw [hqe]
      have hcc := HHC.out
      by_cases h126 : 126 < c
      · have g0 : 126 < p[j].toNat := by omega
        have g1 : (126 : Int) < (p[j].toNat : Int) := by omega
        have g1d : decide ((126 : Int) < (p[j].toNat : Int)) = true := decide_eq_true g1
        clear hqe hen hw8 x1 x2 x3 x4 hcc h126
        go_wp2_with fail
        go_ret
        exact ⟨rfl, KD⟩
      · have heq : e = c + 1 := by have := HHE.out; omega
        have hen1 := HE1.out (by omega)
        have hql : q.data.toList = p.data.toList.take j ++ UInt8.ofNat e :: p.data.toList.drop (j + 1) := by
          have e1 := ext_list p 0 j
          have e2 := ext_list p (j + 1) p.size
          rw [List.drop_zero, Nat.sub_zero] at e1
          rw [List.take_of_length_le (by rw [List.length_drop, ba_len]; omega)] at e2
          rw [← hqe, hen1, ByteArray.data_append, ByteArray.data_append, Array.toList_append, Array.toList_append, e1, e2]
          simp
        have hdd : (UInt8.ofNat e).toNat = p[j].toNat + 1 := by
          rw [hcc, ← heq]; simp; omega
        obtain ⟨q1, q2, q3, q4⟩ := ch_parts p q k j hm (by omega) _ hdd H32.out HNO.out hql
        have HB := Lib.hid (bg_at q k w3.drew (HT.out.keep KD) (by omega) (by omega) (q2 _) q3)
        rw [q4 HG.out] at HB
        have g0 : ¬ 126 < p[j].toNat := by omega
        have g1 : ¬ (126 : Int) < (p[j].toNat : Int) := by omega
        have g1d : decide ((126 : Int) < (p[j].toNat : Int)) = false := decide_eq_false g1
        clear hqe hen hw8 x1 x2 x3 x4 hql hdd q1 q2 q3 q4 hen1 heq hcc h126
        go_wp2_with fail
        refine HB.out.mono ?_
        rintro e w5 ⟨rfl, k5⟩
        go_wp2
        go_ret
        exact ⟨rfl, KD.trans k5⟩
end Go.Proofs.YtcfffgbnkjclfaaDoor
