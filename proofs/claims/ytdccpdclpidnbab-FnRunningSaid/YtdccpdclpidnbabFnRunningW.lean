/- P128: a running mean is that of its days. -/
import Derived.Test.YtdccpdclpidnbabDrNo
import Derived.Test.YtdccpdclpidnbabTrR
import Derived.Test.YtdccpdclpidnbabLw
import Derived.Test.YtdccpdclpidnbabFr
import Derived.LoopTactic
import Derived.IntWalk
namespace Go.Proofs.Ytdccpdclpidnbab
open Go.RowKit
set_option linter.unusedVariables false

set_option maxRecDepth 100000 in
set_option maxHeartbeats 6400000 in
theorem walk_FnRunning (a0 : Option Addr) (len0 cap0 : Nat) (z0 : List Int) (w : World) (w0 : IsRow .u8 w a0 len0 cap0 z0) :
    Calls Try.prog 6 #[.slice a0 len0 cap0] w fun e w' => e = .returned (.bool true) ∧ Below w.heap.size w w' := by
  have ha := code_of_row w0
  obtain ⟨hl0, hm0⟩ := ha.1
  unfold maxLen at hm0
  clear w0
  by_cases h : len0 ≤ 1048576
  case' neg =>
    have hd : decide (1048576 < (len0 : Int)) = true := by simp; omega
    go_enter Try.func6, Try.ntmps6
    go_wp2
    go_ret
    exact ⟨rfl, Below.refl _ _⟩
  have hd : decide (1048576 < (len0 : Int)) = false := by simp; omega
  go_enter Try.func6, Try.ntmps6
  go_wp2_with fail
  refine (drawRunningOf a0 len0 cap0 _ ha).mono ?_
  rintro e w1 ⟨a, c, zs, dy, rfl, hl13, hcap, hB, hL1, ⟨g0, g1⟩, k1⟩
  have HBt := Lib.hid hB
  clear ha hB
  go_wp2_with fail
  refine (ru_impl a c zs dy _ hL1 (by omega) hcap).mono ?_
  rintro e w2 ⟨p, q, rfl, hpq, hF2, k2⟩
  go_wp2_with fail
  refine (ru_spec a c zs dy _ (hL1.keep k2) (by omega) hcap).mono ?_
  rintro e w3 ⟨p3, q3, rfl, hpq3, hF3, k3⟩
  have kk : Keep w w3 := (k1.trans k2).trans k3
  have hL := (hL1.keep k2).keep k3
  have hO := hF2.ls.keep k3
  have hW := hF3.ls
  clear hF2 hF3 hL1 hpq3
  rcases Bool.eq_false_or_eq_true (ruB zs dy) with hs | hs
  case' inr =>
    have hlen : (ruL zs dy).length ≤ 13 := by have := ruL_len zs dy; omega
    generalize ruL zs dy = L at *
    rw [hs]
    clear hs
    go_wp2_with fail
    refine (sI_eq p p3 q q3 L _ hO hW (by omega)).mono ?_
    rintro e w5 ⟨rfl, k5⟩
    go_wp2_with fail
    refine (sI_eq p p3 q q3 L _ (hO.keep k5) (hW.keep k5) (by omega)).mono ?_
    rintro e w7 ⟨rfl, k7⟩
    go_wp2
    go_ret
    exact ⟨rfl, (kk.trans k5).trans k7⟩
  have hul := ruL_len zs dy
  obtain ⟨hq, n, rfl, h1, h2⟩ := ruB_facts hs
  have hl12 := (sq_facts hq).2.2
  rw [ruL_yes hs] at *
  have HLn : Hid ((rul zs n).length + n = zs.length + 1) := Lib.hid (by rw [rul_len]; omega)
  have HG : Hid (∀ k, k + n ≤ zs.length → (rul zs n).getD k 0 = ruv zs n k) := Lib.hid (fun k hk => rul_at hk)
  have HMe := Lib.hid (fun (b off : Nat) (k : Nat) (hk : k + n ≤ zs.length) W (h : Ls W (some ⟨b, off, none⟩) zs) => me_impl (some ⟨b, off + k, none⟩) (c - k) (sg zs k n) 0 W (ls_sg h k n) (by rw [sg_len hk]; omega))
  rw [hs]
  clear hs hq
  generalize rul zs n = L at *
  have hn1 : n ≤ 12 := by omega
  go_wp2_with fail
  refine (sI_eq p p3 q q3 L _ hO hW (by omega)).mono ?_
  rintro e w4 ⟨rfl, k5⟩
  have L4 := Lib.hid (hL.keep k5)
  have O4 := Lib.hid (hO.keep k5)
  have W4 := Lib.hid (hW.keep k5)
  have K4 : Keep w w4 := kk.trans k5
  clear hL hO hW k1 k2 k3 k5 kk
  obtain ⟨e1, he1⟩ : ∃ e1, zs.length - n = e1 := ⟨_, rfl⟩
  have ee : (zs.length : Int) - (n : Int) = (e1 : Int) := by omega
  have HE := Lib.hid he1
  clear he1
  go_wp2_with fail
  go_loopw [9] (fun i wr => ∃ k : Nat, k ≤ L.length ∧ i = .int .i64 k ∧ Keep w4 wr) (fun i _ => L.length - (intOf i).toNat)
  case atStart => exact ⟨0, by omega, rfl, Keep.refl _⟩
  case round =>
    obtain ⟨k, hk, rfl, hKr⟩ := hrel
    have k0 : (0 : Int) ≤ (k : Int) := by omega
    have hLn := HLn.out
    by_cases hlt : k < L.length
    · have hin : k + n ≤ zs.length := by omega
      obtain ⟨b, off, rfl, hb, _⟩ := (L4.out.keep hKr).all (by omega)
      obtain ⟨b2, off2, rfl, hb2, c2⟩ := (O4.out.keep hKr).at_ hlt
      rw [HG.out k hin] at c2
      obtain ⟨t, ht⟩ : ∃ t, k + n = t := ⟨_, rfl⟩
      have te : (k : Int) + (n : Int) = (t : Int) := by omega
      have tw : IntKind.i64.wrap ((k : Int) + (n : Int)) = (t : Int) := by rw [te]; exact IntWalk.i64_in _ ⟨by omega, by omega⟩
      have tk : t - k = n := by omega
      have t0 : (0 : Int) ≤ (t : Int) := by omega
      have t1 : (k : Int) ≤ (t : Int) := by omega
      have t2 : (t : Int) ≤ (c : Int) := by omega
      have t3 : k ≤ t := by omega
      have t4 : t ≤ c := by omega
      have qc : ¬ c = k := by omega
      have tz : decide (t ≤ zs.length) = true := decide_eq_true (by omega)
      have dL : decide (k < L.length) = true := decide_eq_true hlt
      have kL : (k : Int) < (L.length : Int) := by omega
      have HM := Lib.hid (HMe.out b off k hin wr (L4.out.keep hKr))
      rw [sg_len hin] at HM
      have HV : Hid (ruv zs n k = if meB (sg zs k n) 0 then meV (sg zs k n) 0 else -9999) := Lib.hid rfl
      clear hLn ht
      generalize ruv zs n k = v at *
      generalize meB (sg zs k n) 0 = mb at *
      generalize meV (sg zs k n) 0 = mv at *
      go_wp2_with fail
      refine HM.out.mono ?_
      rintro e w5 ⟨rfl, k6⟩
      have c2' := k6.cell c2
      have hv := HV.out
      rcases Bool.eq_false_or_eq_true mb with hmb | hmb
      · rw [hmb, if_pos rfl] at hv
        subst hv
        rw [hmb]
        clear hmb
        go_wp2
        go_roundw
        case rel => exact ⟨k + 1, by omega, by go_num, hKr.trans k6⟩
        case measure => simp [intOf]; omega
      · rw [hmb, if_neg (by simp)] at hv
        subst hv
        rw [hmb]
        clear hmb
        go_wp2
        go_roundw
        case rel => exact ⟨k + 1, by omega, by go_num, hKr.trans k6⟩
        case measure => simp [intOf]; omega
    · obtain rfl : k = L.length := by omega
      have he := HE.out
      have eq1 : ((L.length : Int) == (e1 : Int) + 1) = true := beq_iff_eq.2 (by omega)
      have eq2 : (L.length == e1 + 1) = true := beq_iff_eq.2 (by omega)
      have eq3 : ((L.length : Int) = (e1 : Int) + 1) = True := eq_true (by omega)
      have dL : decide (L.length < L.length) = false := decide_eq_false (by omega)
      clear he hLn
      go_wp2
      go_ret
      exact ⟨rfl, K4.trans hKr⟩
end Go.Proofs.Ytdccpdclpidnbab
