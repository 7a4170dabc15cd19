/- P58: a greater limit finds fewer. -/
import Derived.Test.YtmndlghadgccbaaDrSk
import Derived.Test.YtmndlghadgccbaaDc
import Derived.Test.YtmndlghadgccbaaDd
import Derived.Test.YtmndlghadgccbaaHi
import Derived.Test.YtmndlghadgccbaaFr
import Derived.LoopTactic
import Derived.IntWalk
namespace Go.Proofs.Ytmndlghadgccbaa
open Go.RowKit
set_option linter.unusedVariables false

theorem dbB_sub {ts : List R3} {vs : List Int} {mm : Nat} {most : Int} {p : Nat} (h : dbB ts vs mm (most + 1) p = true) : dbB ts vs mm most p = true := by
  simp only [dbB, Bool.and_eq_true, decide_eq_true_eq] at h ⊢
  exact ⟨h.1, by omega⟩
theorem dbN_sub {ts : List R3} {vs : List Int} {mm : Nat} {most o : Int} : ∀ k, o ∈ dbN ts vs mm (most + 1) k → o ∈ dbN ts vs mm most k
  | 0 => fun h => by simp [dbN] at h
  | k + 1 => fun h => by
    rw [dbN, List.mem_append] at h ⊢
    rcases h with h | h
    · exact .inl (dbN_sub k h)
    · right
      split at h
      · rename_i hb
        rw [if_pos (dbB_sub hb)]; exact h
      · simp at h
theorem dbL_sub {ts : List R3} {vs : List Int} {many most o : Int} (hm : 0 ≤ most) (h : o ∈ dbL ts vs many (most + 1)) : o ∈ dbL ts vs many most := by
  cases h1 : dOk ts vs many (most + 1)
  · rw [dbL_no h1] at h; simp at h
  · have h2 : dOk ts vs many most = true := by
      simp only [dOk, Bool.and_eq_true, decide_eq_true_eq] at h1 ⊢
      exact ⟨h1.1, hm⟩
    rw [dbL_yes h1] at h
    rw [dbL_yes h2]
    exact dbN_sub _ h
set_option maxRecDepth 100000 in
set_option maxHeartbeats 3200000 in
theorem walk_FnDoubtfulMore (a0 : Option Addr) (len0 cap0 : Nat) (z0 : List Int) (w : World) (w0 : IsRow .u8 w a0 len0 cap0 z0) :
    Calls Try.prog 6 #[.slice a0 len0 cap0] w fun e w' => e = .returned (.bool true) ∧ Below w.heap.size w w' := by
  have ha := code_of_row w0
  obtain ⟨hl0, hm0⟩ := ha.1
  unfold maxLen at hm0
  clear w0
  by_cases h : len0 ≤ 1048576
  case' neg =>
    have hd : decide (1048576 < (len0 : Int)) = true := by simp; omega
    go_enter Try.func6, Try.ntmps6
    go_wp2
    go_ret
    exact ⟨rfl, Below.refl _ _⟩
  have hd : decide (1048576 < (len0 : Int)) = false := by simp; omega
  go_enter Try.func6, Try.ntmps6
  go_wp2_with fail
  refine (drawDoubtfulOf a0 len0 cap0 _ ha).mono ?_
  rintro e w1 ⟨g0, c0, ts, b, cv, vs, many, most, rfl, hl7, -, hS1, hv7, -, -, hV1, ⟨mn, mx⟩, ⟨sn, sx⟩, k1⟩
  clear ha
  have hz := dbL_len ts vs many most
  have hz2 := dbL_len ts vs many (most + 1)
  have HSUB := Lib.hid (fun (hm : 0 ≤ most) o (h : o ∈ dbL ts vs many (most + 1)) => dbL_sub hm h)
  go_wp2_with fail
  refine (db_impl _ c0 ts _ cv vs many most _ hS1 (by omega) hV1 (by omega)).mono ?_
  rintro e w2 ⟨p, q, rfl, -, hF2, k2⟩
  go_wp2_with fail
  refine (db_spec _ c0 ts _ cv vs many most _ (hS1.keep k2) (by omega) (hV1.keep k2) (by omega) (by omega)).mono ?_
  rintro e w3 ⟨g3, q3, rfl, -, hW3, hg3, hl3, k3⟩
  have K3 : Keep w w3 := (k1.trans k2).trans k3
  have hO := hF2.ls.keep k3
  have HSE := Lib.hid (sI_eq p (some ⟨g3, 0, none⟩) q q3 (dbL ts vs many most) w3 hO hW3.ls (by omega))
  have HI := Lib.hid (fun W (k : Keep w3 W) => db_impl _ c0 ts _ cv vs many (most + 1) W ((hS1.keep (k2.trans k3)).keep k) (by omega) ((hV1.keep (k2.trans k3)).keep k) (by omega))
  clear hF2 hW3 hS1 hV1 k1 k2 k3
  generalize dbL ts vs many most = L at *
  generalize dbL ts vs many (most + 1) = L2 at *
  go_wp2_with fail
  refine HSE.out.mono ?_
  rintro e w4 ⟨rfl, k4⟩
  go_wp2_with fail
  refine (HI.out _ k4).mono ?_
  rintro e w5 ⟨p5, q5, rfl, -, hF5, k5⟩
  have hO5 := (hO.keep k4).keep k5
  have hX5 := hF5.ls
  have K5 := Lib.hid ((K3.trans k4).trans k5)
  have HH := Lib.hid (fun n => hasI_any p q L n w5 hO5 (by omega))
  clear hF5 HSE HI hO
  go_wp2_with fail
  go_loop [10] (fun i => ∃ k : Nat, k ≤ L2.length ∧ i = .int .i64 k) (fun i => L2.length - (intOf i).toNat)
  case atStart => exact ⟨0, by omega, rfl⟩
  case round =>
    obtain ⟨k, hk, rfl⟩ := hrel
    by_cases hlt : k < L2.length
    · by_cases hm : 0 ≤ most
      · obtain ⟨b5, o5, rfl, -, cx⟩ := hX5.at_ hlt
        have hin : L2.getD k 0 ∈ L2 := by simp [List.getD_eq_getElem?_getD, hlt]
        have hD := Lib.hid (HSUB.out hm _ hin)
        have hmd : decide (0 ≤ most) = true := decide_eq_true hm
        generalize L2.getD k 0 = x at cx hD
        clear hin
        go_wp2_with fail
        refine (HH.out x).mono ?_
        rintro e w6 ⟨rfl, rfl⟩
        rw [decide_eq_true hD.out]
        go_wp2
        go_round
        case rel => exact ⟨k + 1, by omega, by go_num⟩
        case measure => simp [intOf]; omega
      · have hmd : decide (0 ≤ most) = false := decide_eq_false hm
        go_wp2
        go_ret
        exact ⟨rfl, K5.out⟩
    · obtain rfl : k = L2.length := by omega
      go_wp2
      go_ret
      exact ⟨rfl, K5.out⟩
end Go.Proofs.Ytmndlghadgccbaa
