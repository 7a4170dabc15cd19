/- P49: values are counted. -/
import Derived.Test.YtaghgapkjdkkfaaDrSq
import Derived.Test.YtaghgapkjdkkfaaSq
import Derived.Test.YtaghgapkjdkkfaaLw
import Derived.Test.YtaghgapkjdkkfaaFr
import Derived.LoopTactic
import Derived.IntWalk
namespace Go.Proofs.Ytaghgapkjdkkfaa
open Go.RowKit
set_option linter.unusedVariables false

set_option maxRecDepth 100000 in
set_option maxHeartbeats 6400000 in
theorem walk_FnSeriesKnown (a0 : Option Addr) (len0 cap0 : Nat) (z0 : List Int) (w : World) (w0 : IsRow .u8 w a0 len0 cap0 z0) :
    Calls Try.prog 9 #[.slice a0 len0 cap0] w fun e w' => e = .returned (.bool true) ∧ Below w.heap.size w w' := by
  have ha := code_of_row w0
  obtain ⟨hl0, hm0⟩ := ha.1
  unfold maxLen at hm0
  clear w0
  by_cases h : len0 ≤ 1048576
  case' neg =>
    have hd : decide (1048576 < (len0 : Int)) = true := by simp; omega
    go_enter Try.func9, Try.ntmps9
    go_wp2
    go_ret
    exact ⟨rfl, Below.refl _ _⟩
  have hd : decide (1048576 < (len0 : Int)) = false := by simp; omega
  go_enter Try.func9, Try.ntmps9
  go_wp2_with fail
  refine (drawSeriesKnown a0 len0 cap0 _ ha).mono ?_
  rintro e w1 ⟨a, c, zs, rfl, hl13, hcap, hB, hL1, k1⟩
  have K1 : Keep w w1 := k1
  clear ha hB k1
  go_wp2_with fail
  refine (sk_impl a c zs _ hL1 (by omega)).mono ?_
  rintro e w2 ⟨rfl, rfl⟩
  go_wp2_with fail
  refine (sk_spec a c zs _ hL1 (by omega)).mono ?_
  rintro e w2 ⟨rfl, rfl⟩
  rcases Bool.eq_false_or_eq_true (sqB zs) with hs | hs
  case' inr =>
    rw [sk_no hs]
    go_wp2
    go_ret
    exact ⟨rfl, K1⟩
  have HS := Lib.hid hs
  have hkn : knN zs zs.length = (knl zs).length := knN_all zs
  have HR := Lib.hid (sk_rev zs)
  have hb := knN_le zs zs.length
  have HY := Lib.hid (sk_yes hs)
  rw [hkn] at hb HY
  rw [HY.out] at HR ⊢
  clear hs hkn
  have HK := Lib.hid (known_any a c zs w1 hL1 (by omega))
  obtain ⟨n, hn⟩ : ∃ n, (knl zs).length = n := ⟨_, rfl⟩
  rw [hn] at hb HR HY ⊢
  have HN := Lib.hid hn
  clear hn
  go_wp2_with fail
  refine HK.out.mono ?_
  rintro e w2 ⟨g2, c2, rfl, hc2, hW2, hg2, hl2, k2⟩
  clear HK
  rw [HN.out]
  go_wp2_with fail
  refine (back_any a c zs _ (hL1.keep k2) (by omega)).mono ?_
  rintro e w3 ⟨g3, c3, rfl, hc3, hW3, hg3, hl3, k3⟩
  have HB3 := Lib.hid (sk_impl (some ⟨g3, 0, none⟩) c3 zs.reverse w3 hW3.ls (by rw [List.length_reverse]; omega))
  rw [HR.out, List.length_reverse] at HB3
  rw [List.length_reverse]
  go_wp2_with fail
  refine HB3.out.mono ?_
  rintro e w4 ⟨rfl, rfl⟩
  go_wp2
  go_ret
  exact ⟨rfl, (K1.trans k2).trans k3⟩
end Go.Proofs.Ytaghgapkjdkkfaa
