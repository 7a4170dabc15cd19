/- A text that ends with its check number: the program's BulletinGood says so. The sentinel out of the row's list. -/
import Derived.Test.YtpdpcnblpcalaaaDoorBj
import Derived.Stop.LaidErr
import Derived.LaidLaws
namespace Go.Proofs.YtpdpcnblpcalaaaDoor
open Go.RowKit Go.Lib
set_option linter.unusedVariables false

/-- The library's table, and the sentinel. -/
def TabsE (w : World) : Prop := Tabs w ∧ ∃ a : Addr, w.cell? ⟨0, 0, none⟩ = some (.iface 119 (.pointer (some a)))
theorem TabsE.keep {w w' : World} (h : TabsE w) (k : Keep w w') : TabsE w' := ⟨h.1.keep k, h.2.imp fun a ha => k.cell ha⟩

def dg10 : ByteArray := ⟨#[48, 49, 50, 51, 52, 53, 54, 55, 56, 57]⟩
def wd (n : Nat) : ByteArray := if 10 ≤ n then dg10.extract (n / 10) (n / 10 + 1) ++ dg10.extract (n % 10) (n % 10 + 1) else dg10.extract (n % 10) (n % 10 + 1)
theorem wd_key : ∀ n : Fin 97, wd n.val = ⟨(decL 4 n.val).toArray⟩ ∧ (32 : UInt8) ∉ decL 4 n.val ∧ (decL 4 n.val).length ≤ 2 := by decide +kernel
theorem itoa_decL {n : Nat} (h : n < 97) : itoa (n : Int) = decL 4 n := by
  rw [itoa_nonneg, ← decL_eq 4 n (by omega)]
theorem wd_eq {n : Nat} (h : n < 97) : wd n = dtx (n : Int) := by
  rw [dtx, itoa_decL h]; exact (wd_key ⟨n, h⟩).1
theorem no32 {n : Nat} (h : n < 97) : (32 : UInt8) ∉ itoa (n : Int) := by
  rw [itoa_decL h]; exact (wd_key ⟨n, h⟩).2.1
/-- A text with a check number behind. -/
def gd (x : ByteArray) (n : Nat) : ByteArray := ⟨(x.data.toList ++ 32 :: 61 :: itoa (n : Int)).toArray⟩
theorem gd_list (x : ByteArray) (n : Nat) : (gd x n).data.toList = x.data.toList ++ 32 :: 61 :: itoa (n : Int) := by simp [gd]
theorem gd_app (x : ByteArray) (n : Nat) : x ++ ⟨#[32, 61]⟩ ++ dtx (n : Int) = gd x n := bytes_eq (by simp [dtx_list])
theorem ba_len (x : ByteArray) : x.data.toList.length = x.size := Array.length_toList
theorem gd_size (x : ByteArray) (n : Nat) : (gd x n).size = x.size + 2 + (itoa (n : Int)).length := by
  rw [← ba_len, gd_list, List.length_append, ba_len]; simp; omega
theorem gd_at (x : ByteArray) (n : Nat) (h : x.size < (gd x n).size) : (gd x n)[x.size] = 32 := by
  have e : (gd x n)[x.size] = (gd x n).data.toList[x.size]'(by rw [ba_len]; exact h) := rfl
  rw [e]
  simp only [gd_list]
  rw [List.getElem_append_right (by rw [ba_len]; omega)]
  simp
theorem gd_no {x : ByteArray} {n : Nat} (hn : n < 97) {j : Nat} (h : j < (gd x n).size) (hj : x.size < j) : (gd x n)[j] ≠ 32 := by
  have e : (gd x n)[j] = (gd x n).data.toList[j]'(by rw [ba_len]; exact h) := rfl
  rw [e]
  simp only [gd_list]
  rw [List.getElem_append_right (by rw [ba_len]; omega)]
  have hjj : ∃ i, j - x.data.toList.length = i + 1 := ⟨j - x.data.toList.length - 1, by rw [ba_len]; omega⟩
  obtain ⟨i, hi⟩ := hjj
  simp only [hi, List.getElem_cons_succ]
  intro e2
  have hm : (32 : UInt8) ∈ (61 : UInt8) :: itoa (n : Int) := by rw [← e2]; exact List.getElem_mem _
  rcases List.mem_cons.1 hm with h9 | h9
  · exact absurd h9 (by decide)
  · exact no32 hn h9
theorem gd_front (x : ByteArray) (n : Nat) : (gd x n).extract 0 x.size = x := by
  refine (bytes_eq (l := x.data.toList) ?_).trans (bytes_eq (u := x) rfl).symm
  rw [ByteArray.data_extract, Array.toList_extract, List.extract_eq_take_drop, gd_list, List.drop_zero, Nat.sub_zero, ← ba_len x, List.take_left]
theorem gd_back (x : ByteArray) (n : Nat) : (gd x n).extract (x.size + 1) (gd x n).size = ⟨(61 :: itoa (n : Int)).toArray⟩ := by
  refine bytes_eq ?_
  rw [ByteArray.data_extract, Array.toList_extract, List.extract_eq_take_drop, ← ba_len (gd x n), List.take_of_length_le (by rw [List.length_drop]; omega), gd_list, ← ba_len x, List.drop_append]
  simp
set_option maxHeartbeats 1000000 in
theorem li_any (p : ByteArray) (m : Nat) (w : World) (hp : p.size ≤ 1048576) (hm : m < p.size) (h32 : p[m] = 32) (hno : ∀ (j : Nat) (h : j < p.size), m < j → p[j] ≠ 32) :
    Calls Tryd.prog 60 #[.string p, .int .u8 32] w fun e w' => e = .returned (.int .i64 (m : Int)) ∧ w = w' := by
  obtain ⟨u, hu⟩ : ∃ u, p.size = u + 1 := ⟨p.size - 1, by omega⟩
  have HNO := Lib.hid hno
  have H32 := Lib.hid h32
  clear hno h32
  have hsub : (p.size : Int) - 1 = (u : Int) := by omega
  go_enter Tryd.func60, Tryd.ntmps60
  go_wp2_with fail
  go_loop [5] (fun i => ∃ k : Nat, m ≤ k ∧ k < p.size ∧ i = .int .i64 k) (fun i => (RowKit.intOf i).toNat)
  case atStart => exact ⟨u, by omega, by omega, by first | rfl | go_num | (congr 1 <;> omega)⟩
  case round =>
    obtain ⟨k, hk1, hk2, rfl⟩ := hrel
    by_cases hkm : k = m
    · subst hkm
      have hb : (p[k].toNat : Int) = 32 := by simp [H32.out]
      have hb2 : ((p[k].toNat : Int) == 32) = true := by rw [hb]; rfl
      have hb3 : p[k].toNat = 32 := by simp [H32.out]
      go_wp2
      go_ret
      exact ⟨rfl, rfl⟩
    · have hne := HNO.out k hk2 (by omega)
      have hb3 : ¬ p[k].toNat = 32 := fun e => hne (UInt8.toNat_inj.1 (by rw [e]; rfl))
      have hb : ¬ (p[k].toNat : Int) = 32 := by omega
      have hb2 : ((p[k].toNat : Int) == 32) = false := beq_eq_false_iff_ne.2 hb
      obtain ⟨i, rfl⟩ : ∃ i, k = i + 1 := ⟨k - 1, by omega⟩
      clear hne
      go_wp2
      go_round
      case rel => exact ⟨i, by omega, by omega, by go_num⟩
      case measure => first | (simp [RowKit.intOf]; done) | (simp [RowKit.intOf]; omega)
set_option maxHeartbeats 1000000 in
theorem lb_any (p : ByteArray) (m : Nat) (w : World) (hp : p.size ≤ 1048576) (hm : m < p.size) (h32 : p[m] = 32) (hno : ∀ (j : Nat) (h : j < p.size), m < j → p[j] ≠ 32) :
    Calls Tryd.prog 52 #[.string p, .int .u8 32] w fun e w' => e = .returned (.int .i64 (m : Int)) ∧ w = w' := by
  have HL := Lib.hid (fun W => li_any p m W hp hm h32 hno)
  clear h32 hno
  go_enter Tryd.func52, Tryd.ntmps52
  go_wp2_with fail
  refine (HL.out _).mono ?_
  rintro e w1 ⟨rfl, rfl⟩
  go_wp2
  go_ret
  exact ⟨rfl, rfl⟩
set_option maxRecDepth 100000 in
set_option maxHeartbeats 1000000 in
theorem is_nil (a : Addr) (w : World) :
    Calls Tryd.prog 28 #[.nilIface, .iface 119 (.pointer (some a))] w fun e w' => e = .returned (.bool false) ∧ w = w' := by
  have hE : ∀ W : World, Sem.run Tryd.prog (binOp .eql 51 .nilIface (.iface 119 (.pointer (some a)))) W = .ok (.bool false) W := fun W => by kernel_rfl
  go_enter Tryd.func28, Tryd.ntmps28
  go_wp2
  go_ret
  exact ⟨rfl, rfl⟩
set_option maxRecDepth 100000 in
set_option maxHeartbeats 2000000 in
theorem cf_good (x : ByteArray) (w : World) (T : Tabs w) (hx : x.size ≤ 1000) :
    Calls Tryd.prog 30 #[.string (gd x (bsL x.data.toList))] w fun e w' => e = .returned (.tuple #[.string x, .nilIface]) ∧ Keep w w' := by
  have hlt := bsL_lt x.data.toList
  have HSW := Lib.hid (fun W (hT : Tabs W) => sw_impl x W hT (by omega))
  generalize bsL x.data.toList = n at *
  have hl := itoa_len (n := (n : Int)) (by omega) (by omega)
  have hs := gd_size x n
  have HF := Lib.hid (gd_front x n)
  have HB := Lib.hid (gd_back x n)
  have HA := Lib.hid (gd_at x n)
  have HN := Lib.hid (fun (j : Nat) (h : j < (gd x n).size) (hj : x.size < j) => gd_no hlt h hj)
  generalize gd x n = p at *
  generalize (⟨(61 :: itoa (n : Int)).toArray⟩ : ByteArray) = sw at *
  have hxp : x.size < p.size := by omega
  have HLI := Lib.hid (fun W => lb_any p x.size W (by omega) hxp (HA.out hxp) HN.out)
  obtain ⟨m, hm⟩ : ∃ m, x.size = m := ⟨_, rfl⟩
  rw [hm] at HLI HF HB hxp
  have m0 : (0 : Int) ≤ (m : Int) := by omega
  have m1 : ¬ (m : Int) < 0 := by omega
  have m1d : decide ((m : Int) < 0) = false := decide_eq_false m1
  have m2 : (m : Int) ≤ (p.size : Int) := by omega
  have m3 : (m : Int) + 1 ≤ (p.size : Int) := by omega
  have m4 : m ≤ p.size := by omega
  have m6 : (0 : Int) ≤ (m : Int) + 1 := by omega
  have m5 : m + 1 ≤ p.size := by omega
  have mw : IntKind.i64.wrap ((m : Int) + 1) = (m : Int) + 1 := IntWalk.i64_in _ (by omega)
  have HT := Lib.hid T
  clear HA HN T hs hlt hl
  go_enter Tryd.func30, Tryd.ntmps30
  go_wp2_with fail
  refine (HLI.out _).mono ?_
  rintro e w1 ⟨rfl, rfl⟩
  have hB := HB.out
  have hF := HF.out
  go_wp2_with fail
  go_region_held3 (fun w' => Keep w w') ((go_split_ands; (repeat' (first | with_reducible assumption | with_reducible exact Keep.refl _ | with_reducible refine Keep.drew ?_ | with_reducible refine Keep.drewN ?_ _ | with_reducible refine Keep.alloc ?_ _ | with_reducible refine Keep.trans ?_ hk))))
    (first | (go_at_call 44; (try rw [HF.out]); refine (HSW.out _ (HT.out.keep (by (repeat' (first | with_reducible assumption | with_reducible exact Keep.refl _ | with_reducible refine Keep.drew ?_ | with_reducible refine Keep.drewN ?_ _ | with_reducible refine Keep.alloc ?_ _ | with_reducible refine Keep.trans ?_ hk))))).mono ?_; rintro e w' ⟨rfl, hk⟩; go_split_ands; have hK : Keep w w' := Keep.trans (by (repeat' (first | with_reducible assumption | with_reducible exact Keep.refl _ | with_reducible refine Keep.drew ?_ | with_reducible refine Keep.drewN ?_ _ | with_reducible refine Keep.alloc ?_ _ | with_reducible refine Keep.trans ?_ hk))) hk))
  all_goals
    go_wp2
    go_ret2
    exact ⟨by first | rfl | rw [hF], hK⟩
set_option maxRecDepth 100000 in
set_option maxHeartbeats 2000000 in
theorem bg_good (x : ByteArray) (w : World) (T : TabsE w) (hx : x.size ≤ 1000) :
    Calls Tryd.prog 10 #[.string (gd x (bsL x.data.toList))] w fun e w' => e = .returned (.bool true) ∧ Keep w w' := by
  have HC := Lib.hid (cf_good x w T.1 hx)
  obtain ⟨a, ha⟩ := T.2
  have HI := Lib.hid (fun W => is_nil a W)
  generalize gd x (bsL x.data.toList) = p at *
  clear T
  go_enter Tryd.func10, Tryd.ntmps10
  go_wp2_with fail
  refine HC.out.mono ?_
  rintro e w1 ⟨rfl, k1⟩
  have ha1 := k1.cell ha
  go_wp2_with fail
  refine (HI.out _).mono ?_
  rintro e w2 ⟨rfl, rfl⟩
  go_wp2
  go_ret
  exact ⟨rfl, k1⟩
end Go.Proofs.YtpdpcnblpcalaaaDoor
