/- Scripts: a report added to no store, in the program. -/
import Derived.Test.YtnemdnidlbekbaaGreatDoorSa
import Derived.Test.YtnemdnidlbekbaaGreatDoorSb
namespace Go.Proofs.YtnemdnidlbekbaaGreatDoor
open Go.RowKit
set_option linter.unusedVariables false

set_option maxRecDepth 100000 in
set_option maxHeartbeats 2000000 in
theorem concat0_any (b1 b2 : Nat) (r : R4) (w : World) (h1 : At4 w b1 0 r)
    (c0 : w.cell? ⟨b2, 0, none⟩ = some (.slice none 0 0)) (c1 : w.cell? ⟨b2, 1, none⟩ = some (.slice (some ⟨b1, 0, none⟩) 1 1)) :
    Calls Tryz.prog 98 #[.slice (some ⟨b2, 0, none⟩) 2 2] w fun e w' => ∃ g c, e = .returned (.slice (some ⟨g, 0, none⟩) 1 c) ∧ 1 ≤ c ∧ w.heap.size ≤ g ∧ g < w'.heap.size ∧ WrR w' g [r] ∧ Keep w w' := by
  obtain ⟨i0, hi, hz0, hz1, hz2⟩ := info_parts infoRep
  have HG := Lib.hid (grow_nil 1 (by omega) (by omega) w)
  go_enter Tryz.func98, Tryz.ntmps98
  go_wp2_with fail
  go_loop [3, 11] (fun s i => (i = .int .i64 0 ∧ s = .int .i64 0) ∨ (i = .int .i64 1 ∧ s = .int .i64 0) ∨ (i = .int .i64 2 ∧ s = .int .i64 1)) (fun _ i => 2 - (intOf i).toNat)
  case atStart => exact .inl ⟨rfl, rfl⟩
  case round =>
    rcases hrel with ⟨rfl, rfl⟩ | ⟨rfl, rfl⟩ | ⟨rfl, rfl⟩
    · go_wp2
      go_round
      case rel => exact .inr (.inl ⟨by go_num, by go_num⟩)
      case measure => simp [intOf]
    · go_wp2
      go_round
      case rel => exact .inr (.inr ⟨by go_num, by go_num⟩)
      case measure => simp [intOf]
    · go_wp2_with fail
      refine HG.out.mono ?_
      rintro e w2 ⟨c, rfl, hown2, k2⟩
      have HO := Lib.hid hown2
      have HK := Lib.hid k2
      have d0 := k2.cell c0
      have d1 := k2.cell c1
      have HA := Lib.hid (h1.keep k2)
      clear hown2 k2
      go_wp2_with fail
      go_loopw [6, 27] (fun u i wr => (i = .int .i64 0 ∧ u = .slice (some ⟨w.heap.size, 0, none⟩) 0 c ∧ Hid (wr.ownsRow w.heap.size 54 4 u 0 (flatR [])) ∧ Keep w wr) ∨ (i = .int .i64 1 ∧ Hid (wr.ownsRow w.heap.size 54 4 u 0 (flatR [])) ∧ Keep w wr) ∨ (i = .int .i64 2 ∧ Hid (wr.ownsRow w.heap.size 54 4 u 1 (flatR [r])) ∧ Keep w wr)) (fun _ i _ => 2 - (intOf i).toNat)
      case atStart => exact .inl ⟨rfl, rfl, HO, HK.out⟩
      case round =>
        clear HO HK HA d0 d1 HG
        rcases hrel with ⟨rfl, rfl, HO, HK⟩ | ⟨rfl, HO, HK⟩ | ⟨rfl, HO, HK⟩
        · have d0 := HK.cell c0
          have d1 := HK.cell c1
          go_wp2
          go_roundw
          case rel => exact .inr (.inl ⟨by go_num, HO, HK⟩)
          case measure => simp [intOf]
        · have d0 := HK.cell c0
          have d1 := HK.cell c1
          have hs := HK.size
          have hown := HO.out
          go_wp2_with (at_builtin; refine wpList_append_own _ rfl _ _ 32 rfl w.heap.size 54 i0 (.agg #[.int .i64 0, .int .i64 0, .int .i64 0, .int .i64 0]) 4 32 Tryz.underlying32 hi hz0 hz1 hz2 rfl (by decide) _ _ _ rfl hown ⟨b1, 0, none⟩ 1 1 (rc r) rfl ?le ?ce ?ke ?me ?be ?se ?_)
          case le => rfl
          case ce => exact news_one (h1.keep HK)
          case ke => exact rc_one r
          case me => unfold maxLen; omega
          case be => omega
          case se => first | omega | (simp; try omega)
          intro v' w5 hown' hgrow hnil
          have HN : Hid (w5.ownsRow w.heap.size 54 4 v' 1 (flatR [r])) := Lib.hid (by rw [flatR_one]; simpa [flatR] using hown')
          have HK2 : Hid (Keep w w5) := Lib.hid (Below.grown HK hgrow hs (fun q hq => (hown.lt q hq).1))
          clear hown' hgrow hnil hown
          go_wp2
          go_roundw
          case rel => exact .inr (.inr ⟨by go_num, HN, HK2.out⟩)
          case measure => simp [intOf]
        · obtain ⟨g', c', rfl, hbg, hlg⟩ := HO.out.form (by omega)
          have HW := Lib.hid (wrR_own HO.out (by simp))
          have hcp := own_cap HO.out
          go_wp2
          go_ret
          exact ⟨g', c', rfl, hcp, hbg, hlg, HW.out, HK⟩
set_option maxRecDepth 100000 in
set_option maxHeartbeats 2000000 in
theorem sad0_impl (s d k v : Int) (w : World) :
    Calls Tryz.prog 73 #[.slice none 0 0, .agg #[.int .i64 s, .int .i64 d, .int .i64 k, .int .i64 v]] w (AdPostN [] (s, d, k, v) w) := by
  have HS : Hid (stB [] = true) := Lib.hid (by decide)
  rcases Bool.eq_false_or_eq_true (rOk s d k v) with hr | hr
  case' inr =>
    have H := Lib.hid (adL_no (rs := []) (r := (s, d, k, v)) (by rw [HS.out]; exact hr))
    have HR := Lib.hid hr
    clear hr
    go_enter Tryz.func73, Tryz.ntmps73
    go_wp2_with (go_at_call 74; refine (sv_impl none 0 [] _ (Rs.nil _ _) (by simp)).mono ?_; rintro e w1 ⟨he, k1⟩; rw [HS.out] at he; subst he; have n0 := k1.new 0 (v := .int .i64 s) rfl; have n1 := k1.new 1 (v := .int .i64 d) rfl; have n2 := k1.new 2 (v := .int .i64 k) rfl; have n3 := k1.new 3 (v := .int .i64 v) rfl)
    go_wp2_with (go_at_call 72; refine (rv_impl s d k v _).mono ?_; rintro e w2 ⟨he, k2⟩; rw [HR.out] at he; subst he)
    go_ret2
    exact ⟨none, 0, by rw [H.out.1, H.out.2]; rfl, by rw [H.out.1]; simp, .inl H.out.1, (((Keep.refl w).alloc _).trans k1).trans k2⟩
  have HR := Lib.hid hr
  have HSR : Hid ((stB [] && rB (s, d, k, v)) = true) := Lib.hid (by rw [HS.out]; exact hr)
  clear hr
  have H := Lib.hid (adL_yes (rs := []) HSR.out (by simp))
  go_enter Tryz.func73, Tryz.ntmps73
  go_wp2_with fail
  refine (sv_impl none 0 [] _ (Rs.nil _ _) (by simp)).mono ?_
  rintro e w1 ⟨he, k1⟩
  rw [HS.out] at he
  subst he
  have n0 := k1.new 0 (v := .int .i64 s) rfl
  have n1 := k1.new 1 (v := .int .i64 d) rfl
  have n2 := k1.new 2 (v := .int .i64 k) rfl
  have n3 := k1.new 3 (v := .int .i64 v) rfl
  go_wp2_with fail
  refine (rv_impl s d k v _).mono ?_
  rintro e w2 ⟨he, hk2⟩
  rw [HR.out] at he
  subst he
  have k2 : Keep w1 w2 := hk2
  have m0 := k2.cell n0
  have m1 := k2.cell n1
  have m2 := k2.cell n2
  have m3 := k2.cell n3
  have k12 := ((Keep.refl w).alloc (.cells #[.int .i64 s, .int .i64 d, .int .i64 k, .int .i64 v] 54)).trans (k1.trans k2)
  clear n0 n1 n2 n3
  go_wp2_with fail
  have hs2 := k12.size
  have HC2 := Lib.hid (((Keep.refl w2).alloc (.cells #[.int .i64 s, .int .i64 d, .int .i64 k, .int .i64 v] 54)).alloc (.cells #[.slice none 0 0, .slice (some ⟨w2.heap.size, 0, none⟩) 1 1] 32))
  have HA : Hid (At4 ((w2.alloc (.cells #[.int .i64 s, .int .i64 d, .int .i64 k, .int .i64 v] 54)).alloc (.cells #[.slice none 0 0, .slice (some ⟨w2.heap.size, 0, none⟩) 1 1] 32)) w2.heap.size 0 (s, d, k, v)) := Lib.hid (by
    have k9 := (Keep.refl (w2.alloc (.cells #[.int .i64 s, .int .i64 d, .int .i64 k, .int .i64 v] 54))).alloc (.cells #[.slice none 0 0, .slice (some ⟨w2.heap.size, 0, none⟩) 1 1] 32)
    exact ⟨k9.new 0 rfl, k9.new 1 rfl, k9.new 2 rfl, k9.new 3 rfl⟩)
  have e0 : ∀ j, ((w2.alloc (.cells #[.int .i64 s, .int .i64 d, .int .i64 k, .int .i64 v] 54)).alloc (.cells #[.slice none 0 0, .slice (some ⟨w2.heap.size, 0, none⟩) 1 1] 32)).cell? ⟨w2.heap.size + 1, j, none⟩ = (#[.slice none 0 0, .slice (some ⟨w2.heap.size, 0, none⟩) 1 1] : Array Value)[j]? := fun j => by
    have h1 := World.cell?_alloc_new (w2.alloc (.cells #[.int .i64 s, .int .i64 d, .int .i64 k, .int .i64 v] 54)) #[.slice none 0 0, .slice (some ⟨w2.heap.size, 0, none⟩) 1 1] 32 j
    rw [show (w2.alloc (.cells #[.int .i64 s, .int .i64 d, .int .i64 k, .int .i64 v] 54)).heap.size = w2.heap.size + 1 by simp] at h1
    exact h1
  refine (concat0_any _ _ (s, d, k, v) _ HA.out ((e0 0).trans rfl) ((e0 1).trans rfl)).mono ?_
  rintro e w3 ⟨g, c, rfl, hcp, hg, hlg, hW, k3⟩
  clear e0
  go_wp2
  go_ret2
  have hs3 := HC2.out.size
  exact ⟨_, c, by rw [H.out.1, H.out.2, List.length_append]; rfl, by rw [H.out.1, List.length_append]; exact hcp, .inr ⟨g, rfl, by omega, hlg, by rw [H.out.1]; exact hW⟩, (k12.trans HC2.out).trans k3⟩
end Go.Proofs.YtnemdnidlbekbaaGreatDoor
