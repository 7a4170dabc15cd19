/- P72: a series without gaps agrees with itself. -/
import Derived.Test.YtmndlghadgccbabDrGf
import Derived.Test.YtmndlghadgccbabGl
import Derived.Test.YtmndlghadgccbabGq
import Derived.Test.YtmndlghadgccbabGf
import Derived.Test.YtmndlghadgccbabGc
import Derived.Test.YtmndlghadgccbabFr
import Derived.Test.YtmndlghadgccbabGw
import Derived.LoopTactic
import Derived.IntWalk
namespace Go.Proofs.Ytmndlghadgccbab
open Go.RowKit
set_option linter.unusedVariables false

set_option maxRecDepth 100000 in
set_option maxHeartbeats 6400000 in
theorem walk_FnFillFits (a0 : Option Addr) (len0 cap0 : Nat) (z0 : List Int) (w : World) (w0 : IsRow .u8 w a0 len0 cap0 z0) :
    Calls Try.prog 9 #[.slice a0 len0 cap0] w fun e w' => e = .returned (.bool true) ∧ Below w.heap.size w w' := by
  have ha := code_of_row w0
  obtain ⟨hl0, hm0⟩ := ha.1
  unfold maxLen at hm0
  clear w0
  by_cases h : len0 ≤ 1048576
  case' neg =>
    have hd : decide (1048576 < (len0 : Int)) = true := by simp; omega
    go_enter Try.func9, Try.ntmps9
    go_wp2
    go_ret
    exact ⟨rfl, Below.refl _ _⟩
  have hd : decide (1048576 < (len0 : Int)) = false := by simp; omega
  go_enter Try.func9, Try.ntmps9
  go_wp2_with fail
  refine (drawFillFits a0 len0 cap0 _ ha).mono ?_
  rintro e w1 ⟨a, b, c, d, zs, ds, lo, hi, st, rfl, ⟨hl13, hcz⟩, ⟨hd13, hcd⟩, hL1, hD1, k1⟩
  clear ha
  go_wp2_with fail
  refine (ff_impl a b c d zs ds lo hi st _ hL1 hD1 (by omega) (by omega)).mono ?_
  rintro e w2 ⟨rfl, k2⟩
  go_wp2_with fail
  refine (ff_spec a b c d zs ds lo hi st _ (hL1.keep k2) (hD1.keep k2) (by omega) (by omega)).mono ?_
  rintro e w3 ⟨rfl, k3⟩
  have K3 : Keep w w3 := (k1.trans k2).trans k3
  have HL := Lib.hid ((hL1.keep k2).keep k3)
  have HD := Lib.hid ((hD1.keep k2).keep k3)
  clear hL1 hD1 k1 k2 k3
  rcases Bool.eq_false_or_eq_true (ffV zs ds lo hi st) with hs | hs
  case' inr =>
    rw [hs]
    go_wp2
    go_ret
    exact ⟨rfl, K3⟩
  have HV := Lib.hid hs
  have hlen := (ffV_facts hs).2.1
  have hga := (ffV_facts hs).1
  obtain ⟨hsq, ⟨hlo', hhi'⟩, hlh, hst0, hst1⟩ := gaB_facts hga
  obtain ⟨hl1, hl12⟩ := (sq_facts hsq).2
  rw [hs]
  clear hs hga hsq
  obtain ⟨hsf, hgd⟩ := ff_self HV.out
  have HOK := Lib.hid (ff_ok hsf)
  have HFI := Lib.hid (fi_impl b d ds lo hi st w3 HD.out (by omega))
  have HFF := Lib.hid (fun W (k : Keep w3 W) => ff_impl b b d d ds ds lo hi st W (HD.out.keep k) (HD.out.keep k) (by omega) (by omega))
  rw [hsf] at HFF
  have HWD : Hid (wdV (gRl ds lo hi st) = 0) := Lib.hid (by
    have hall : ∀ i, i < ds.length → (gRl ds lo hi st).getD i u0 = (ds.getD i 0, ds.getD i 0) := fun i hi' => by
      rw [gRl_at hi', (hgd i hi').1, (hgd i hi').2]
    have hb : ∀ i, i < ds.length → lo ≤ ds.getD i 0 ∧ ds.getD i 0 ≤ hi := fun i hi' => (ffD_facts (ffN_at (ffV_facts hsf).2.2 hi')).1
    have hsum : ∀ k, k ≤ ds.length → wdN (gRl ds lo hi st) k = 0 := fun k => by
      induction k with
      | zero => intro _; rfl
      | succ k ih =>
        intro hk
        rw [wdN, ih (by omega), hall k (by omega)]
        simp [uL, uH]
    rw [wdV_yes (by rw [gRl_len]; omega) ?_, gRl_len, hsum _ (Nat.le_refl _)]
    rw [List.all_eq_true]
    intro r hr
    obtain ⟨i, hi', rfl⟩ := List.getElem_of_mem hr
    rw [gRl_len] at hi'
    have h1 := hall i hi'
    have h2 : (gRl ds lo hi st).getD i u0 = (gRl ds lo hi st)[i]'(by rw [gRl_len]; exact hi') := by simp [List.getD_eq_getElem?_getD, gRl_len, hi']
    rw [← h2, h1]
    have := hb i hi'
    show rgOk (ds.getD i 0) (ds.getD i 0) = true
    exact rgOk_mk ⟨by omega, by omega, by omega⟩)
  have hd1 : 1 ≤ ds.length := by omega
  have hd12 : ds.length ≤ 12 := by omega
  clear hsf hgd hlen
  go_wp2_with fail
  refine HFI.out.mono ?_
  rintro e w6 ⟨p6, q6, rfl, hq6, hF6, k6⟩
  have HR6 := Lib.hid hF6.rr
  rw [gRL_yes HOK.out] at HR6 hq6 ⊢
  rw [gRl_len] at hq6
  rw [HOK.out, gRl_len]
  clear hF6 HFI
  have HWI := Lib.hid (fun W (k : Keep w6 W) => wd_impl p6 q6 (gRl ds lo hi st) W (HR6.out.keep k) (by rw [gRl_len]; omega))
  rw [HWD.out, gRl_len] at HWI
  go_wp2_with fail
  refine (HFF.out _ k6).mono ?_
  rintro e w7 ⟨rfl, k7⟩
  go_wp2_with fail
  refine (HWI.out _ k7).mono ?_
  rintro e w8 ⟨rfl, k8⟩
  go_wp2
  go_ret
  exact ⟨rfl, ((K3.trans k6).trans k7).trans k8⟩
end Go.Proofs.Ytmndlghadgccbab
