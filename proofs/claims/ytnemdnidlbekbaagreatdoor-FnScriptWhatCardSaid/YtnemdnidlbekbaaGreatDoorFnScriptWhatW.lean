/- P164: unknown commands change nothing. -/
import Derived.Test.YtnemdnidlbekbaaGreatDoorMvccdfadjn
namespace Go.Proofs.YtnemdnidlbekbaaGreatDoor
open Go.RowKit
set_option linter.unusedVariables false

set_option maxRecDepth 1000000 in
set_option maxHeartbeats 6400000 in
theorem walk_FnScriptWhat (a0 : Option Addr) (len0 cap0 : Nat) (z0 : List Int) (w : World) (w0 : IsRow .u8 w a0 len0 cap0 z0) (T : TabsZ w) :
    Calls Tryz.prog 5 #[.slice a0 len0 cap0] w fun e w' => e = .returned (.bool true) ∧ Below w.heap.size w w' := by
  have ha := code_of_row w0
  obtain ⟨hl0, hm0⟩ := ha.1
  unfold maxLen at hm0
  clear w0
  by_cases h : len0 ≤ 1048576
  case' neg =>
    have hd : decide (1048576 < (len0 : Int)) = true := by simp; omega
    go_enter Tryz.func5, Tryz.ntmps5
    go_wp2
    go_ret
    exact ⟨rfl, Below.refl _ _⟩
  have hd : decide (1048576 < (len0 : Int)) = false := by simp; omega
  have HT := Lib.hid T
  clear T
  have HD := Lib.hid (drawExecute a0 len0 cap0 w ha)
  go_enter Tryz.func5, Tryz.ntmps5
  go_wp2_with fail
  refine HD.out.mono ?_
  rintro e w1 ⟨s, rfl, hs, k1⟩
  go_wp2_with fail
  refine (exec_impl s _ (HT.out.tabs.keep k1) (HT.out.maxl.keep k1)).mono ?_
  rintro e w2 ⟨t, rfl, hx, k2⟩
  go_wp2_with fail
  refine (exec_spec s _).mono ?_
  rintro e w3 ⟨t2, rfl, hx2, k3⟩
  obtain rfl : t2 = t := both_one hx hx2
  have K3 : Keep w w3 := (k1.trans k2).trans k3
  have HX := Lib.hid hx
  have HT3 := Lib.hid (HT.out.keep K3)
  have hne : (t2.toList != t2.toList) = false := by simp
  clear hx hx2 k1 k2 k3 HD ha HT
  by_cases hl : 600 < s.size + 4
  · have q1 : (600 : Int) < (s.size : Int) + 4 := by omega
    have qw : IntKind.i64.wrap ((s.size : Int) + 4) = (s.size : Int) + 4 := IntWalk.i64_in _ (by omega)
    have hee : (t2.toList == t2.toList) = true := by simp
    go_wp2
    go_ret
    exact ⟨rfl, K3⟩
  · have q1 : ¬ (600 : Int) < (s.size : Int) + 4 := by omega
    have qw : IntKind.i64.wrap ((s.size : Int) + 4) = (s.size : Int) + 4 := IntWalk.i64_in _ (by omega)
    obtain ⟨ps, q, e1, e2, h1, h2⟩ := cut_parts 10 s.data.toList
    have hse : s.data.toList.length = s.size := rfl
    have hfl : (flat 10 ps).length + q.length = s.size := by
      have h9 := congrArg List.length e2
      rw [List.length_append] at h9; omega
    have HE := Lib.hid (exec_cut (by omega) e1 e2 h1 HX.out)
    obtain ⟨out, e0, hy, hn, hp, ho, hz⟩ := exec_what h1 (by omega) HE.out
    have HZ := Lib.hid hz
    have HY := Lib.hid hy
    have hyl : t2.size ≤ 1048576 := by
      obtain ⟨rs, o9, hr9, h9⟩ := exec_parts HE.out (by omega)
      obtain ⟨hr40, hol⟩ := run_bd hr9
      have h8 : t2.data.toList.length = t2.size := rfl
      have h7 := itoa_ten (z := (rs.length : Int)) (by omega) (by omega)
      have h6 := cutL_len 10 (flat 10 ps)
      have h5 : ((cutL 10 (flat 10 ps)).length - 1) * 451 ≤ 600 * 451 := Nat.mul_le_mul_right _ (by omega)
      have h4 : sReports.length = 8 := rfl
      rw [h9] at h8
      simp only [List.length_append, List.length_singleton] at h8
      omega
    have HC := Lib.hid (complete_any s ps q w3 (by omega) e2 h2)
    have HLa := Lib.hid (fun W => last_any t2 out e0 W hyl hy hn hp ho)
    have hol : out.length + (e0.length + 1) = t2.size := by
      have h8 : t2.data.toList.length = t2.size := rfl
      rw [hy] at h8; simpa using h8
    have hfs : (flat 10 ps).length + 4 ≤ 600 := by omega
    clear e1 e2 h1 h2 hy hz hn hp ho hfl hse
    go_wp2_with fail
    refine HC.out.mono ?_
    rintro e w4 ⟨⟨c, rfl, hc⟩, rfl⟩
    have HI := Lib.hid (exec_const c t2 (by rw [hc]; exact HE.out) w3 HT3.out)
    have hcs : c.size + 4 ≤ 600 := by have h9 : c.data.toList.length = c.size := rfl
                                      rw [hc] at h9; omega
    have HCc := Lib.hid hc
    clear hc
    go_wp2_with fail
    refine HI.out.mono ?_
    rintro e w5 ⟨rfl, k5⟩
    have K5 := K3.trans k5
    have HT5 := Lib.hid (HT3.out.keep k5)
    go_wp2_with fail
    refine (HLa.out _).mono ?_
    rintro e w6 ⟨⟨en, rfl, hen⟩, rfl⟩
    have hens : en.size = e0.length + 1 := by
      have h9 : en.data.toList.length = en.size := rfl
      rw [hen] at h9; simpa using h9.symm
    have HZ2 : Hid (∀ z : ByteArray, z.data.toList = sZ ++ [10] → ∀ W, Keep w5 W → Calls Tryz.prog 13 #[.string (c ++ z)] W fun e w' => e = .returned (.string (t2.extract 0 out.length ++ ⟨#[119, 104, 97, 116, 10]⟩ ++ en)) ∧ Keep W w') := Lib.hid (fun z hz W kW => by
      refine exec_const _ _ ?_ W (HT5.out.keep kW)
      have e5 : (c ++ z).data.toList = flat 10 ps ++ (sZ ++ [10]) := by simp [HCc.out, hz]
      have e6 : (t2.extract 0 out.length ++ ⟨#[119, 104, 97, 116, 10]⟩ ++ en).data.toList = out ++ (sWhat ++ [10]) ++ (e0 ++ [10]) := by
        have e7 : List.take out.length t2.data.toList = out := by rw [HY.out]; exact List.take_left' rfl
        simp [e7, hen, sWhat]
      rw [e5, e6]; exact HZ.out)
    obtain ⟨m, hm⟩ : ∃ m, out.length = m := ⟨_, rfl⟩
    rw [hm] at HZ2 hol
    have HM := Lib.hid hm
    have t1 : ¬ 9223372036854775807 < c.size + 4 := by omega
    have x1 : IntKind.i64.wrap ((t2.size : Int) - (en.size : Int)) = (m : Int) := by rw [IntWalk.i64_in _ (by omega)]; omega
    have x2 : IntKind.i64.wrap (m : Int) = (m : Int) := IntWalk.i64_in _ (by omega)
    have x3 : (0 : Int) ≤ (m : Int) := by omega
    have x4 : (m : Int) ≤ (t2.size : Int) := by omega
    have x5 : m ≤ t2.size := by omega
    have x6 : ¬ t2.size < m := by omega
    have x7 : ¬ (m : Int) < 0 := by omega
    have x8 : ¬ (t2.size : Int) < (m : Int) := by omega
    have hex : (t2.extract 0 m).size ≤ 1048576 := by rw [ByteArray.size_extract]; omega
    have t2' : ¬ 9223372036854775807 < (t2.extract 0 m).size + 5 := by omega
    have t3 : ¬ 9223372036854775807 < (t2.extract 0 m).size + 5 + en.size := by omega
    have t4 : ¬ 9223372036854775807 < min m t2.size + 5 := by omega
    have t5 : ¬ 9223372036854775807 < min m t2.size + 5 + en.size := by omega
    have t6 : ¬ 9223372036854775807 < m + 5 := by omega
    have t7 : ¬ 9223372036854775807 < m + 5 + en.size := by omega
    clear hm hol hens hen hcs
    have kr : Keep w5 w5.drew := (Keep.refl w5).drew
    go_wp2_with fail
    go_region_held3 (fun w' => Keep w5 w') ((first | exact kr | exact k9 | exact kr.trans k9))
      ((go_at_call 13; go_split_ands; (with_reducible refine (HZ2.out _ rfl _ kr).mono ?_); rintro e w9 ⟨rfl, k9⟩; go_split_ands))
    all_goals
      go_wp2
      go_ret
      exact ⟨rfl, K5.trans (kr.trans k9)⟩
end Go.Proofs.YtnemdnidlbekbaaGreatDoor
