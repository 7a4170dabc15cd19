/- The program's text of a report. -/
import Derived.Test.YtaggciojccoidaaDoorTx
import Derived.Test.YtaggciojccoidaaDoorTab
import Derived.Test.YtaggciojccoidaaDoorShelf
namespace Go.Proofs.YtaggciojccoidaaDoor
open Go.RowKit Go.Lib
set_option linter.unusedVariables false

theorem keep_grow (w : World) (q : Nat) (os : Array Obj) : Keep w (Go.Sort.grow (w.drewN q) os) :=
  ⟨rfl, rfl, rfl, by simp [Go.Sort.grow], fun i hi => by
    show ((w.drewN q).heap ++ os)[i]? = _
    rw [Array.getElem?_append_left (by show i < w.heap.size; omega)]
    rfl⟩
theorem itoa_any (n : Int) (w : World) (T : Tabs w) (h0 : -99999 ≤ n) (h1 : n ≤ 99999) :
    Calls Tryd.prog 34 #[.int .i64 n] w fun e w' => e = .returned (.string (dtx n)) ∧ Keep w w' :=
  (Tryd.strconv_Itoa n (by omega) (by omega) w T).mono fun e w' ⟨he, k, os, hw⟩ => ⟨he, by rw [hw]; exact keep_grow w k os⟩
set_option maxHeartbeats 1000000 in
theorem text_impl (s d k v : Int) (w : World) (T : Tabs w) :
    Calls Tryd.prog 14 #[.agg #[.int .i64 s, .int .i64 d, .int .i64 k, .int .i64 v]] w fun e w' => e = .returned (.string (tx s d k v)) ∧ Keep w w' := by
  rcases Bool.eq_false_or_eq_true (rOk s d k v) with hr | hr
  · obtain ⟨hk, ⟨s1, s2⟩, ⟨d1, d2⟩, ⟨v1, v2⟩⟩ := rOk_bd hr
    have E := Lib.hid (tx_yes hr)
    have hk3 : k = 1 ∨ k = 2 ∨ k = 3 := by simp [kOk] at hk; omega
    have z1 := dtx_size (n := s) (by omega) (by omega)
    have z2 := dtx_size (n := d) (by omega) (by omega)
    have z3 := dtx_size (n := v) (by omega) (by omega)
    have t1 : ¬ 9223372036854775807 < 1 + (dtx s).size := by omega
    have t2 : ¬ 9223372036854775807 < 1 + (dtx s).size + 2 := by omega
    have t3 : ¬ 9223372036854775807 < 1 + (dtx s).size + 2 + (dtx d).size := by omega
    have t4 : ¬ 9223372036854775807 < 1 + (dtx s).size + 2 + (dtx d).size + 1 := by omega
    have t5 : ¬ 9223372036854775807 < 1 + (dtx s).size + 2 + (dtx d).size + 1 + 1 := by omega
    have t6 : ¬ 9223372036854775807 < 1 + (dtx s).size + 2 + (dtx d).size + 1 + 1 + (dtx v).size := by omega
    rcases hk3 with rfl | rfl | rfl
    · go_enter Tryd.func14, Tryd.ntmps14
      go_wp2_with fail
      refine (rv_impl s d 1 v _).mono ?_
      rintro e w1 ⟨rfl, k1⟩
      have c0 : w1.cell? ⟨w.heap.size, 0, none⟩ = some (.int .i64 s) := Keep.new k1 0 rfl
      have c1 : w1.cell? ⟨w.heap.size, 1, none⟩ = some (.int .i64 d) := Keep.new k1 1 rfl
      have c2 : w1.cell? ⟨w.heap.size, 2, none⟩ = some (.int .i64 1) := Keep.new k1 2 rfl
      have c3 : w1.cell? ⟨w.heap.size, 3, none⟩ = some (.int .i64 v) := Keep.new k1 3 rfl
      have kw : Keep w w1 := Keep.trans ((Keep.refl w).alloc _) k1
      have HT := Lib.hid (T.keep kw)
      go_wp2_with fail
      have hl : Utf8.encode ((((⟨#[116, 114, 112]⟩ : ByteArray)[0]'(by decide)).toNat : Nat) : Int) = ⟨#[116]⟩ := by kernel_rfl
      rw [hl]; clear hl
      go_region_held3 (fun w' => Keep w1 w' ∧ w'.cell? ⟨w.heap.size, 0, none⟩ = some (.int .i64 s) ∧ w'.cell? ⟨w.heap.size, 1, none⟩ = some (.int .i64 d) ∧ w'.cell? ⟨w.heap.size, 2, none⟩ = some (.int .i64 1) ∧ w'.cell? ⟨w.heap.size, 3, none⟩ = some (.int .i64 v)) ((go_split_ands; refine (fun hK => ⟨hK, hK.cell c0, hK.cell c1, hK.cell c2, hK.cell c3⟩ : Keep w1 _ → _) ?_; (repeat' (first | with_reducible assumption | with_reducible exact Keep.refl _ | with_reducible refine Keep.drew ?_ | with_reducible refine Keep.drewN ?_ _ | with_reducible refine Keep.alloc ?_ _ | with_reducible refine Keep.trans ?_ hk))))
        (first | (go_at_call 34; refine (itoa_any _ _ (HT.out.keep (by (repeat' (first | with_reducible assumption | with_reducible exact Keep.refl _ | with_reducible refine Keep.drew ?_ | with_reducible refine Keep.drewN ?_ _ | with_reducible refine Keep.alloc ?_ _ | with_reducible refine Keep.trans ?_ hk)))) (by omega) (by omega)).mono ?_; rintro e w' ⟨rfl, hk⟩; go_split_ands; have hK : Keep w1 w' := Keep.trans (by (repeat' (first | with_reducible assumption | with_reducible exact Keep.refl _ | with_reducible refine Keep.drew ?_ | with_reducible refine Keep.drewN ?_ _ | with_reducible refine Keep.alloc ?_ _ | with_reducible refine Keep.trans ?_ hk))) hk))
      all_goals
        go_wp2
        go_ret
        refine ⟨retS ?_, kw.trans (by (repeat' (first | with_reducible assumption | with_reducible exact Keep.refl _ | with_reducible refine Keep.drew ?_ | with_reducible refine Keep.drewN ?_ _ | with_reducible refine Keep.alloc ?_ _ | with_reducible refine Keep.trans ?_ hk)))⟩
        rw [E.out]
        exact bytes_eq (by simp [txt, kLet, dtx_list])
    · go_enter Tryd.func14, Tryd.ntmps14
      go_wp2_with fail
      refine (rv_impl s d 2 v _).mono ?_
      rintro e w1 ⟨rfl, k1⟩
      have c0 : w1.cell? ⟨w.heap.size, 0, none⟩ = some (.int .i64 s) := Keep.new k1 0 rfl
      have c1 : w1.cell? ⟨w.heap.size, 1, none⟩ = some (.int .i64 d) := Keep.new k1 1 rfl
      have c2 : w1.cell? ⟨w.heap.size, 2, none⟩ = some (.int .i64 2) := Keep.new k1 2 rfl
      have c3 : w1.cell? ⟨w.heap.size, 3, none⟩ = some (.int .i64 v) := Keep.new k1 3 rfl
      have kw : Keep w w1 := Keep.trans ((Keep.refl w).alloc _) k1
      have HT := Lib.hid (T.keep kw)
      go_wp2_with fail
      have hl : Utf8.encode ((((⟨#[116, 114, 112]⟩ : ByteArray)[1]'(by decide)).toNat : Nat) : Int) = ⟨#[114]⟩ := by kernel_rfl
      rw [hl]; clear hl
      go_region_held3 (fun w' => Keep w1 w' ∧ w'.cell? ⟨w.heap.size, 0, none⟩ = some (.int .i64 s) ∧ w'.cell? ⟨w.heap.size, 1, none⟩ = some (.int .i64 d) ∧ w'.cell? ⟨w.heap.size, 2, none⟩ = some (.int .i64 2) ∧ w'.cell? ⟨w.heap.size, 3, none⟩ = some (.int .i64 v)) ((go_split_ands; refine (fun hK => ⟨hK, hK.cell c0, hK.cell c1, hK.cell c2, hK.cell c3⟩ : Keep w1 _ → _) ?_; (repeat' (first | with_reducible assumption | with_reducible exact Keep.refl _ | with_reducible refine Keep.drew ?_ | with_reducible refine Keep.drewN ?_ _ | with_reducible refine Keep.alloc ?_ _ | with_reducible refine Keep.trans ?_ hk))))
        (first | (go_at_call 34; refine (itoa_any _ _ (HT.out.keep (by (repeat' (first | with_reducible assumption | with_reducible exact Keep.refl _ | with_reducible refine Keep.drew ?_ | with_reducible refine Keep.drewN ?_ _ | with_reducible refine Keep.alloc ?_ _ | with_reducible refine Keep.trans ?_ hk)))) (by omega) (by omega)).mono ?_; rintro e w' ⟨rfl, hk⟩; go_split_ands; have hK : Keep w1 w' := Keep.trans (by (repeat' (first | with_reducible assumption | with_reducible exact Keep.refl _ | with_reducible refine Keep.drew ?_ | with_reducible refine Keep.drewN ?_ _ | with_reducible refine Keep.alloc ?_ _ | with_reducible refine Keep.trans ?_ hk))) hk))
      all_goals
        go_wp2
        go_ret
        refine ⟨retS ?_, kw.trans (by (repeat' (first | with_reducible assumption | with_reducible exact Keep.refl _ | with_reducible refine Keep.drew ?_ | with_reducible refine Keep.drewN ?_ _ | with_reducible refine Keep.alloc ?_ _ | with_reducible refine Keep.trans ?_ hk)))⟩
        rw [E.out]
        exact bytes_eq (by simp [txt, kLet, dtx_list])
    · go_enter Tryd.func14, Tryd.ntmps14
      go_wp2_with fail
      refine (rv_impl s d 3 v _).mono ?_
      rintro e w1 ⟨rfl, k1⟩
      have c0 : w1.cell? ⟨w.heap.size, 0, none⟩ = some (.int .i64 s) := Keep.new k1 0 rfl
      have c1 : w1.cell? ⟨w.heap.size, 1, none⟩ = some (.int .i64 d) := Keep.new k1 1 rfl
      have c2 : w1.cell? ⟨w.heap.size, 2, none⟩ = some (.int .i64 3) := Keep.new k1 2 rfl
      have c3 : w1.cell? ⟨w.heap.size, 3, none⟩ = some (.int .i64 v) := Keep.new k1 3 rfl
      have kw : Keep w w1 := Keep.trans ((Keep.refl w).alloc _) k1
      have HT := Lib.hid (T.keep kw)
      go_wp2_with fail
      have hl : Utf8.encode ((((⟨#[116, 114, 112]⟩ : ByteArray)[2]'(by decide)).toNat : Nat) : Int) = ⟨#[112]⟩ := by kernel_rfl
      rw [hl]; clear hl
      go_region_held3 (fun w' => Keep w1 w' ∧ w'.cell? ⟨w.heap.size, 0, none⟩ = some (.int .i64 s) ∧ w'.cell? ⟨w.heap.size, 1, none⟩ = some (.int .i64 d) ∧ w'.cell? ⟨w.heap.size, 2, none⟩ = some (.int .i64 3) ∧ w'.cell? ⟨w.heap.size, 3, none⟩ = some (.int .i64 v)) ((go_split_ands; refine (fun hK => ⟨hK, hK.cell c0, hK.cell c1, hK.cell c2, hK.cell c3⟩ : Keep w1 _ → _) ?_; (repeat' (first | with_reducible assumption | with_reducible exact Keep.refl _ | with_reducible refine Keep.drew ?_ | with_reducible refine Keep.drewN ?_ _ | with_reducible refine Keep.alloc ?_ _ | with_reducible refine Keep.trans ?_ hk))))
        (first | (go_at_call 34; refine (itoa_any _ _ (HT.out.keep (by (repeat' (first | with_reducible assumption | with_reducible exact Keep.refl _ | with_reducible refine Keep.drew ?_ | with_reducible refine Keep.drewN ?_ _ | with_reducible refine Keep.alloc ?_ _ | with_reducible refine Keep.trans ?_ hk)))) (by omega) (by omega)).mono ?_; rintro e w' ⟨rfl, hk⟩; go_split_ands; have hK : Keep w1 w' := Keep.trans (by (repeat' (first | with_reducible assumption | with_reducible exact Keep.refl _ | with_reducible refine Keep.drew ?_ | with_reducible refine Keep.drewN ?_ _ | with_reducible refine Keep.alloc ?_ _ | with_reducible refine Keep.trans ?_ hk))) hk))
      all_goals
        go_wp2
        go_ret
        refine ⟨retS ?_, kw.trans (by (repeat' (first | with_reducible assumption | with_reducible exact Keep.refl _ | with_reducible refine Keep.drew ?_ | with_reducible refine Keep.drewN ?_ _ | with_reducible refine Keep.alloc ?_ _ | with_reducible refine Keep.trans ?_ hk)))⟩
        rw [E.out]
        exact bytes_eq (by simp [txt, kLet, dtx_list])
  · have E := Lib.hid (tx_no hr)
    go_enter Tryd.func14, Tryd.ntmps14
    go_wp2_with fail
    refine (rv_impl s d k v _).mono ?_
    rintro e w1 ⟨rfl, k1⟩
    go_wp2
    go_ret
    exact ⟨retS E.out.symm, ((Keep.refl w).alloc _).trans k1⟩
end Go.Proofs.YtaggciojccoidaaDoor
