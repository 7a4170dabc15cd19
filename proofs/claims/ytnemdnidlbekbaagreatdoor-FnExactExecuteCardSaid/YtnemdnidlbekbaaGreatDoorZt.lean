/- Scripts: reports added to a store, and the type of the block that holds them. -/
import Derived.Test.YtnemdnidlbekbaaGreatDoorZh
namespace Go.Proofs.YtnemdnidlbekbaaGreatDoor
open Go.RowKit
set_option linter.unusedVariables false

/-- Block g is one of reports. -/
def TyR (w : World) (g : Nat) : Prop := ∃ cs fz, w.heap[g]? = some (.cells cs 54 fz)
theorem TyR.keep {w w' : World} {g : Nat} (h : TyR w g) (k : Keep w w') : TyR w' g := by
  obtain ⟨cs, fz, h⟩ := h
  exact ⟨cs, fz, (Below.block k g (Array.getElem?_eq_some_iff.1 h).1).trans h⟩
def WrT (w : World) (g : Nat) (ys : List R4) : Prop := WrR w g ys ∧ TyR w g
theorem WrT.keep {w w' : World} {g : Nat} {ys : List R4} (h : WrT w g ys) (k : Keep w w') : WrT w' g ys := ⟨h.1.keep k, h.2.keep k⟩
def FrT (w w' : World) (a : Option Addr) (ys : List R4) : Prop := ys = [] ∨ ∃ g, a = some ⟨g, 0, none⟩ ∧ w.heap.size ≤ g ∧ g < w'.heap.size ∧ WrT w' g ys
def AdPostT (rs : List R4) (r : R4) (w : World) (e : Ending) (w' : World) : Prop :=
  ∃ (a : Option Addr) (c : Nat), e = .returned (.tuple #[.slice a (adL rs r).length c, .bool (adB rs r)]) ∧ (adL rs r).length ≤ c ∧ FrT w w' a (adL rs r) ∧ Keep w w'
theorem wrT_own {w : World} {base g n c : Nat} {ys : List R4} (h : w.ownsRow base 54 4 (.slice (some ⟨g, 0, none⟩) n c) n (flatR ys)) (hn : n = ys.length) : WrT w g ys := by
  refine ⟨wrR_own h hn, ?_⟩
  rcases h.2 with ⟨h', _⟩ | ⟨g', cap', cur, h', _, hg, _⟩
  · simp at h'
  · simp only [Value.slice.injEq, Option.some.injEq, Addr.mk.injEq, and_true, true_and] at h'
    obtain ⟨rfl, rfl⟩ := h'
    exact ⟨_, _, hg⟩
set_option maxRecDepth 100000 in
set_option maxHeartbeats 1000000 in
theorem cloneT_any (b off cap : Nat) (rs : List R4) (w : World) (h : Rs w (some ⟨b, off, none⟩) rs) (h0 : 0 < rs.length) (hm : rs.length ≤ 40) :
    Calls Tryz.prog 97 #[.slice (some ⟨b, off, none⟩) rs.length cap] w fun e w' => ∃ g c, e = .returned (.slice (some ⟨g, 0, none⟩) rs.length c) ∧ rs.length ≤ c ∧ w.heap.size ≤ g ∧ g < w'.heap.size ∧ WrT w' g rs ∧ Keep w w' := by
  obtain ⟨i0, hi, hz0, hz1, hz2⟩ := info_parts infoRep
  have hown := World.ownsRow_made (base := w.heap.size) (e := 54) (size := 4) w #[] 0 (Nat.le_refl _) (by unfold maxLen; omega) rfl
  have HR := h.alloc (.cells #[] 54)
  have hq := fun (w : World) (a : Option Addr) (n c n' c' : Nat) => Lib.run_eql_slice_nil (P := Tryz.prog) w 32 54 a n c n' c' Tryz.underlying32
  go_enter Tryz.func97, Tryz.ntmps97
  go_wp2_with (at_builtin; refine wpList_append_own _ rfl _ _ 32 rfl w.heap.size 54 i0 (.agg #[.int .i64 0, .int .i64 0, .int .i64 0, .int .i64 0]) 4 32 Tryz.underlying32 hi hz0 hz1 hz2 rfl (by decide) _ _ _ rfl hown ⟨b, off, none⟩ rs.length cap (flatR rs) rfl ?la ?ca ?ka ?ma ?ba ?sa ?_)
  case la => exact flatR_len rs
  case ca => exact news_rs HR
  case ka => exact flat_one
  case ma => unfold maxLen; omega
  case ba => omega
  case sa => first | omega | (simp; try omega)
  intro v' w5 hown' hgrow hnil
  try rw [Nat.zero_add] at hown'
  try rw [List.nil_append] at hown'
  obtain ⟨g', c', rfl, hbg, hlg⟩ := hown'.form h0
  have HW := Lib.hid (wrT_own hown' rfl)
  have hcp := own_cap hown'
  have HK2 := Lib.hid ((Below.grown ((Keep.refl w).alloc (.cells #[] 54)) hgrow ((Keep.refl w).alloc (.cells #[] 54)).size (fun q hq => (hown.lt q hq).1)) : Keep w w5)
  clear hown' hgrow hnil hown HR
  go_wp2
  go_ret
  exact ⟨g', c', rfl, hcp, hbg, hlg, HW.out, HK2.out⟩
set_option maxRecDepth 100000 in
set_option maxHeartbeats 2000000 in
theorem concatT_any (b off cap b1 b2 : Nat) (rs : List R4) (r : R4) (w : World) (h : Rs w (some ⟨b, off, none⟩) rs) (hm : rs.length ≤ 40) (h1 : At4 w b1 0 r)
    (c0 : w.cell? ⟨b2, 0, none⟩ = some (.slice (some ⟨b, off, none⟩) rs.length cap)) (c1 : w.cell? ⟨b2, 1, none⟩ = some (.slice (some ⟨b1, 0, none⟩) 1 1)) :
    Calls Tryz.prog 98 #[.slice (some ⟨b2, 0, none⟩) 2 2] w fun e w' => ∃ g c, e = .returned (.slice (some ⟨g, 0, none⟩) (rs.length + 1) c) ∧ rs.length + 1 ≤ c ∧ w.heap.size ≤ g ∧ g < w'.heap.size ∧ WrT w' g (rs ++ [r]) ∧ Keep w w' := by
  obtain ⟨i0, hi, hz0, hz1, hz2⟩ := info_parts infoRep
  have HG := Lib.hid (grow_nil (rs.length + 1) (by omega) (by omega) w)
  go_enter Tryz.func98, Tryz.ntmps98
  go_wp2_with fail
  go_loop [3, 11] (fun s i => (i = .int .i64 0 ∧ s = .int .i64 0) ∨ (i = .int .i64 1 ∧ s = .int .i64 rs.length) ∨ (i = .int .i64 2 ∧ s = .int .i64 (rs.length + 1 : Nat))) (fun _ i => 2 - (intOf i).toNat)
  case atStart => exact .inl ⟨rfl, rfl⟩
  case round =>
    rcases hrel with ⟨rfl, rfl⟩ | ⟨rfl, rfl⟩ | ⟨rfl, rfl⟩
    · go_wp2
      go_round
      case rel => exact .inr (.inl ⟨by go_num, by go_num⟩)
      case measure => simp [intOf]
    · have hn : ¬ ((rs.length : Int) + 1 < 0) := by omega
      go_wp2
      go_round
      case rel => exact .inr (.inr ⟨by go_num, by go_num⟩)
      case measure => simp [intOf]
    · go_wp2_with fail
      refine HG.out.mono ?_
      rintro e w2 ⟨c, rfl, hown2, k2⟩
      have HO := Lib.hid hown2
      have HK := Lib.hid k2
      have d0 := k2.cell c0
      have d1 := k2.cell c1
      have HR := Lib.hid (h.keep k2)
      have HA := Lib.hid (h1.keep k2)
      clear hown2 k2
      go_wp2_with fail
      go_loopw [6, 27] (fun u i wr => (i = .int .i64 0 ∧ Hid (wr.ownsRow w.heap.size 54 4 u 0 (flatR [])) ∧ Keep w wr) ∨ (i = .int .i64 1 ∧ Hid (wr.ownsRow w.heap.size 54 4 u rs.length (flatR rs)) ∧ Keep w wr) ∨ (i = .int .i64 2 ∧ Hid (wr.ownsRow w.heap.size 54 4 u (rs.length + 1) (flatR (rs ++ [r]))) ∧ Keep w wr)) (fun _ i _ => 2 - (intOf i).toNat)
      case atStart => exact .inl ⟨rfl, HO, HK.out⟩
      case round =>
        clear HO HK HR HA d0 d1 HG
        rcases hrel with ⟨rfl, HO, HK⟩ | ⟨rfl, HO, HK⟩ | ⟨rfl, HO, HK⟩
        · have d0 := HK.cell c0
          have d1 := HK.cell c1
          have hs := HK.size
          have hown := HO.out
          go_wp2_with (at_builtin; refine wpList_append_own _ rfl _ _ 32 rfl w.heap.size 54 i0 (.agg #[.int .i64 0, .int .i64 0, .int .i64 0, .int .i64 0]) 4 32 Tryz.underlying32 hi hz0 hz1 hz2 rfl (by decide) _ _ _ rfl hown ⟨b, off, none⟩ rs.length cap (flatR rs) rfl ?ld ?cd ?kd ?md ?bd ?sd ?_)
          case ld => exact flatR_len rs
          case cd => exact news_rs (h.keep HK)
          case kd => exact flat_one
          case md => unfold maxLen; omega
          case bd => omega
          case sd => first | omega | (simp; try omega)
          intro v' w5 hown' hgrow hnil
          have HN : Hid (w5.ownsRow w.heap.size 54 4 v' rs.length (flatR rs)) := Lib.hid (by simpa [flatR] using hown')
          have HK2 : Hid (Keep w w5) := Lib.hid (Below.grown HK hgrow hs (fun q hq => (hown.lt q hq).1))
          clear hown' hgrow hnil hown
          go_wp2
          go_roundw
          case rel => exact .inr (.inl ⟨by go_num, HN, HK2.out⟩)
          case measure => simp [intOf]
        · have d0 := HK.cell c0
          have d1 := HK.cell c1
          have hs := HK.size
          have hown := HO.out
          go_wp2_with (at_builtin; refine wpList_append_own _ rfl _ _ 32 rfl w.heap.size 54 i0 (.agg #[.int .i64 0, .int .i64 0, .int .i64 0, .int .i64 0]) 4 32 Tryz.underlying32 hi hz0 hz1 hz2 rfl (by decide) _ _ _ rfl hown ⟨b1, 0, none⟩ 1 1 (rc r) rfl ?le ?ce ?ke ?me ?be ?se ?_)
          case le => rfl
          case ce => exact news_one (h1.keep HK)
          case ke => exact rc_one r
          case me => unfold maxLen; omega
          case be => omega
          case se => first | omega | (simp; try omega)
          intro v' w5 hown' hgrow hnil
          have HN : Hid (w5.ownsRow w.heap.size 54 4 v' (rs.length + 1) (flatR (rs ++ [r]))) := Lib.hid (by rw [flatR_app, flatR_one]; exact hown')
          have HK2 : Hid (Keep w w5) := Lib.hid (Below.grown HK hgrow hs (fun q hq => (hown.lt q hq).1))
          clear hown' hgrow hnil hown
          go_wp2
          go_roundw
          case rel => exact .inr (.inr ⟨by go_num, HN, HK2.out⟩)
          case measure => simp [intOf]
        · obtain ⟨g', c', rfl, hbg, hlg⟩ := HO.out.form (by omega)
          have HW := Lib.hid (wrT_own HO.out (by simp))
          have hcp := own_cap HO.out
          go_wp2
          go_ret
          exact ⟨g', c', rfl, hcp, hbg, hlg, HW.out, HK⟩
set_option maxRecDepth 100000 in
set_option maxHeartbeats 2000000 in
theorem concat0T_any (b1 b2 : Nat) (r : R4) (w : World) (h1 : At4 w b1 0 r)
    (c0 : w.cell? ⟨b2, 0, none⟩ = some (.slice none 0 0)) (c1 : w.cell? ⟨b2, 1, none⟩ = some (.slice (some ⟨b1, 0, none⟩) 1 1)) :
    Calls Tryz.prog 98 #[.slice (some ⟨b2, 0, none⟩) 2 2] w fun e w' => ∃ g c, e = .returned (.slice (some ⟨g, 0, none⟩) 1 c) ∧ 1 ≤ c ∧ w.heap.size ≤ g ∧ g < w'.heap.size ∧ WrT w' g [r] ∧ Keep w w' := by
  obtain ⟨i0, hi, hz0, hz1, hz2⟩ := info_parts infoRep
  have HG := Lib.hid (grow_nil 1 (by omega) (by omega) w)
  go_enter Tryz.func98, Tryz.ntmps98
  go_wp2_with fail
  go_loop [3, 11] (fun s i => (i = .int .i64 0 ∧ s = .int .i64 0) ∨ (i = .int .i64 1 ∧ s = .int .i64 0) ∨ (i = .int .i64 2 ∧ s = .int .i64 1)) (fun _ i => 2 - (intOf i).toNat)
  case atStart => exact .inl ⟨rfl, rfl⟩
  case round =>
    rcases hrel with ⟨rfl, rfl⟩ | ⟨rfl, rfl⟩ | ⟨rfl, rfl⟩
    · go_wp2
      go_round
      case rel => exact .inr (.inl ⟨by go_num, by go_num⟩)
      case measure => simp [intOf]
    · go_wp2
      go_round
      case rel => exact .inr (.inr ⟨by go_num, by go_num⟩)
      case measure => simp [intOf]
    · go_wp2_with fail
      refine HG.out.mono ?_
      rintro e w2 ⟨c, rfl, hown2, k2⟩
      have HO := Lib.hid hown2
      have HK := Lib.hid k2
      have d0 := k2.cell c0
      have d1 := k2.cell c1
      have HA := Lib.hid (h1.keep k2)
      clear hown2 k2
      go_wp2_with fail
      go_loopw [6, 27] (fun u i wr => (i = .int .i64 0 ∧ u = .slice (some ⟨w.heap.size, 0, none⟩) 0 c ∧ Hid (wr.ownsRow w.heap.size 54 4 u 0 (flatR [])) ∧ Keep w wr) ∨ (i = .int .i64 1 ∧ Hid (wr.ownsRow w.heap.size 54 4 u 0 (flatR [])) ∧ Keep w wr) ∨ (i = .int .i64 2 ∧ Hid (wr.ownsRow w.heap.size 54 4 u 1 (flatR [r])) ∧ Keep w wr)) (fun _ i _ => 2 - (intOf i).toNat)
      case atStart => exact .inl ⟨rfl, rfl, HO, HK.out⟩
      case round =>
        clear HO HK HA d0 d1 HG
        rcases hrel with ⟨rfl, rfl, HO, HK⟩ | ⟨rfl, HO, HK⟩ | ⟨rfl, HO, HK⟩
        · have d0 := HK.cell c0
          have d1 := HK.cell c1
          go_wp2
          go_roundw
          case rel => exact .inr (.inl ⟨by go_num, HO, HK⟩)
          case measure => simp [intOf]
        · have d0 := HK.cell c0
          have d1 := HK.cell c1
          have hs := HK.size
          have hown := HO.out
          go_wp2_with (at_builtin; refine wpList_append_own _ rfl _ _ 32 rfl w.heap.size 54 i0 (.agg #[.int .i64 0, .int .i64 0, .int .i64 0, .int .i64 0]) 4 32 Tryz.underlying32 hi hz0 hz1 hz2 rfl (by decide) _ _ _ rfl hown ⟨b1, 0, none⟩ 1 1 (rc r) rfl ?le ?ce ?ke ?me ?be ?se ?_)
          case le => rfl
          case ce => exact news_one (h1.keep HK)
          case ke => exact rc_one r
          case me => unfold maxLen; omega
          case be => omega
          case se => first | omega | (simp; try omega)
          intro v' w5 hown' hgrow hnil
          have HN : Hid (w5.ownsRow w.heap.size 54 4 v' 1 (flatR [r])) := Lib.hid (by rw [flatR_one]; simpa [flatR] using hown')
          have HK2 : Hid (Keep w w5) := Lib.hid (Below.grown HK hgrow hs (fun q hq => (hown.lt q hq).1))
          clear hown' hgrow hnil hown
          go_wp2
          go_roundw
          case rel => exact .inr (.inr ⟨by go_num, HN, HK2.out⟩)
          case measure => simp [intOf]
        · obtain ⟨g', c', rfl, hbg, hlg⟩ := HO.out.form (by omega)
          have HW := Lib.hid (wrT_own HO.out (by simp))
          have hcp := own_cap HO.out
          go_wp2
          go_ret
          exact ⟨g', c', rfl, hcp, hbg, hlg, HW.out, HK⟩
set_option maxRecDepth 100000 in
set_option maxHeartbeats 2000000 in
theorem sad0T_impl (s d k v : Int) (w : World) :
    Calls Tryz.prog 73 #[.slice none 0 0, .agg #[.int .i64 s, .int .i64 d, .int .i64 k, .int .i64 v]] w (AdPostT [] (s, d, k, v) w) := by
  have HS : Hid (stB [] = true) := Lib.hid (by decide)
  rcases Bool.eq_false_or_eq_true (rOk s d k v) with hr | hr
  case' inr =>
    have H := Lib.hid (adL_no (rs := []) (r := (s, d, k, v)) (by rw [HS.out]; exact hr))
    have HR := Lib.hid hr
    clear hr
    go_enter Tryz.func73, Tryz.ntmps73
    go_wp2_with (go_at_call 74; refine (sv_impl none 0 [] _ (Rs.nil _ _) (by simp)).mono ?_; rintro e w1 ⟨he, k1⟩; rw [HS.out] at he; subst he; have n0 := k1.new 0 (v := .int .i64 s) rfl; have n1 := k1.new 1 (v := .int .i64 d) rfl; have n2 := k1.new 2 (v := .int .i64 k) rfl; have n3 := k1.new 3 (v := .int .i64 v) rfl)
    go_wp2_with (go_at_call 72; refine (rv_impl s d k v _).mono ?_; rintro e w2 ⟨he, k2⟩; rw [HR.out] at he; subst he)
    go_ret2
    exact ⟨none, 0, by rw [H.out.1, H.out.2]; rfl, by rw [H.out.1]; simp, .inl H.out.1, (((Keep.refl w).alloc _).trans k1).trans k2⟩
  have HR := Lib.hid hr
  have HSR : Hid ((stB [] && rB (s, d, k, v)) = true) := Lib.hid (by rw [HS.out]; exact hr)
  clear hr
  have H := Lib.hid (adL_yes (rs := []) HSR.out (by simp))
  go_enter Tryz.func73, Tryz.ntmps73
  go_wp2_with fail
  refine (sv_impl none 0 [] _ (Rs.nil _ _) (by simp)).mono ?_
  rintro e w1 ⟨he, k1⟩
  rw [HS.out] at he
  subst he
  have n0 := k1.new 0 (v := .int .i64 s) rfl
  have n1 := k1.new 1 (v := .int .i64 d) rfl
  have n2 := k1.new 2 (v := .int .i64 k) rfl
  have n3 := k1.new 3 (v := .int .i64 v) rfl
  go_wp2_with fail
  refine (rv_impl s d k v _).mono ?_
  rintro e w2 ⟨he, hk2⟩
  rw [HR.out] at he
  subst he
  have k2 : Keep w1 w2 := hk2
  have m0 := k2.cell n0
  have m1 := k2.cell n1
  have m2 := k2.cell n2
  have m3 := k2.cell n3
  have k12 := ((Keep.refl w).alloc (.cells #[.int .i64 s, .int .i64 d, .int .i64 k, .int .i64 v] 54)).trans (k1.trans k2)
  clear n0 n1 n2 n3
  go_wp2_with fail
  have hs2 := k12.size
  have HC2 := Lib.hid (((Keep.refl w2).alloc (.cells #[.int .i64 s, .int .i64 d, .int .i64 k, .int .i64 v] 54)).alloc (.cells #[.slice none 0 0, .slice (some ⟨w2.heap.size, 0, none⟩) 1 1] 32))
  have HA : Hid (At4 ((w2.alloc (.cells #[.int .i64 s, .int .i64 d, .int .i64 k, .int .i64 v] 54)).alloc (.cells #[.slice none 0 0, .slice (some ⟨w2.heap.size, 0, none⟩) 1 1] 32)) w2.heap.size 0 (s, d, k, v)) := Lib.hid (by
    have k9 := (Keep.refl (w2.alloc (.cells #[.int .i64 s, .int .i64 d, .int .i64 k, .int .i64 v] 54))).alloc (.cells #[.slice none 0 0, .slice (some ⟨w2.heap.size, 0, none⟩) 1 1] 32)
    exact ⟨k9.new 0 rfl, k9.new 1 rfl, k9.new 2 rfl, k9.new 3 rfl⟩)
  have e0 : ∀ j, ((w2.alloc (.cells #[.int .i64 s, .int .i64 d, .int .i64 k, .int .i64 v] 54)).alloc (.cells #[.slice none 0 0, .slice (some ⟨w2.heap.size, 0, none⟩) 1 1] 32)).cell? ⟨w2.heap.size + 1, j, none⟩ = (#[.slice none 0 0, .slice (some ⟨w2.heap.size, 0, none⟩) 1 1] : Array Value)[j]? := fun j => by
    have h1 := World.cell?_alloc_new (w2.alloc (.cells #[.int .i64 s, .int .i64 d, .int .i64 k, .int .i64 v] 54)) #[.slice none 0 0, .slice (some ⟨w2.heap.size, 0, none⟩) 1 1] 32 j
    rw [show (w2.alloc (.cells #[.int .i64 s, .int .i64 d, .int .i64 k, .int .i64 v] 54)).heap.size = w2.heap.size + 1 by simp] at h1
    exact h1
  refine (concat0T_any _ _ (s, d, k, v) _ HA.out ((e0 0).trans rfl) ((e0 1).trans rfl)).mono ?_
  rintro e w3 ⟨g, c, rfl, hcp, hg, hlg, hW, k3⟩
  clear e0
  go_wp2
  go_ret2
  have hs3 := HC2.out.size
  exact ⟨_, c, by rw [H.out.1, H.out.2, List.length_append]; rfl, by rw [H.out.1, List.length_append]; exact hcp, .inr ⟨g, rfl, by omega, hlg, by rw [H.out.1]; exact hW⟩, (k12.trans HC2.out).trans k3⟩
set_option maxRecDepth 100000 in
set_option maxHeartbeats 2000000 in
theorem sadT_impl (b off cap : Nat) (rs : List R4) (s d k v : Int) (w : World) (h : Rs w (some ⟨b, off, none⟩) rs) (hm : rs.length ≤ 4611686018427387904) (hc : rs.length ≤ cap) :
    Calls Tryz.prog 73 #[.slice (some ⟨b, off, none⟩) rs.length cap, .agg #[.int .i64 s, .int .i64 d, .int .i64 k, .int .i64 v]] w (AdPostT rs (s, d, k, v) w) := by
  rcases Bool.eq_false_or_eq_true (stB rs) with hs | hs
  case' inr =>
    have H := Lib.hid (adL_no (rs := rs) (r := (s, d, k, v)) (by rw [hs]; rfl))
    go_enter Tryz.func73, Tryz.ntmps73
    go_wp2_with (go_at_call 74; refine (sv_impl _ cap rs _ (h.alloc _) hm).mono ?_; rintro e w1 ⟨he, k1⟩; rw [hs] at he; subst he)
    go_ret2
    exact ⟨none, 0, by rw [H.out.1, H.out.2]; rfl, by rw [H.out.1]; simp, .inl H.out.1, ((Keep.refl w).alloc _).trans k1⟩
  have hl := (stB_facts hs).2
  have HS := Lib.hid hs
  clear hs
  rcases Bool.eq_false_or_eq_true (rOk s d k v) with hr | hr
  case' inr =>
    have H := Lib.hid (adL_no (rs := rs) (r := (s, d, k, v)) (by rw [HS.out]; exact hr))
    have HR := Lib.hid hr
    clear hr
    go_enter Tryz.func73, Tryz.ntmps73
    go_wp2_with (go_at_call 74; refine (sv_impl _ cap rs _ (h.alloc _) hm).mono ?_; rintro e w1 ⟨he, k1⟩; rw [HS.out] at he; subst he; have n0 := k1.new 0 (v := .int .i64 s) rfl; have n1 := k1.new 1 (v := .int .i64 d) rfl; have n2 := k1.new 2 (v := .int .i64 k) rfl; have n3 := k1.new 3 (v := .int .i64 v) rfl)
    go_wp2_with (go_at_call 72; refine (rv_impl s d k v _).mono ?_; rintro e w2 ⟨he, k2⟩; rw [HR.out] at he; subst he)
    go_ret2
    exact ⟨none, 0, by rw [H.out.1, H.out.2]; rfl, by rw [H.out.1]; simp, .inl H.out.1, (((Keep.refl w).alloc _).trans k1).trans k2⟩
  have HR := Lib.hid hr
  have HSR : Hid ((stB rs && rB (s, d, k, v)) = true) := Lib.hid (by rw [HS.out]; exact hr)
  clear hr
  by_cases h40 : rs.length = 40
  · have H := Lib.hid (adL_full HSR.out h40)
    have HCl := Lib.hid (fun W hW => cloneT_any b off cap rs W hW (by omega) hl)
    replace h40 := Lib.hid h40
    go_enter Tryz.func73, Tryz.ntmps73
    go_wp2_with fail
    refine (sv_impl _ cap rs _ (h.alloc _) hm).mono ?_
    rintro e w1 ⟨he, k1⟩
    rw [HS.out] at he
    subst he
    have n0 := k1.new 0 (v := .int .i64 s) rfl
    have n1 := k1.new 1 (v := .int .i64 d) rfl
    have n2 := k1.new 2 (v := .int .i64 k) rfl
    have n3 := k1.new 3 (v := .int .i64 v) rfl
    go_wp2_with fail
    refine (rv_impl s d k v _).mono ?_
    rintro e w2 ⟨he, hk2⟩
    rw [HR.out] at he
    subst he
    have k2 : Keep w1 w2 := hk2
    have m0 := k2.cell n0
    have m1 := k2.cell n1
    have m2 := k2.cell n2
    have m3 := k2.cell n3
    have k12 := ((Keep.refl w).alloc (.cells #[.int .i64 s, .int .i64 d, .int .i64 k, .int .i64 v] 54)).trans (k1.trans k2)
    have HR2 := Lib.hid (h.keep k12)
    clear n0 n1 n2 n3
    have d40 : ((rs.length : Int) == 40) = true := by have := h40.out; simp; omega
    go_wp2_with fail
    refine (HCl.out _ HR2.out).mono ?_
    rintro e w3 ⟨g, c, rfl, hcp, hg, hlg, hW, k3⟩
    go_wp2
    go_ret2
    have hs2 := k12.size
    exact ⟨_, c, by rw [H.out.1, H.out.2]; rfl, by rw [H.out.1]; exact hcp, .inr ⟨g, rfl, Nat.le_trans hs2 hg, hlg, by rw [H.out.1]; exact hW⟩, k12.trans k3⟩
  · have H := Lib.hid (adL_yes HSR.out (by omega : rs.length < 40))
    have d40 : ((rs.length : Int) == 40) = false := by simp; omega
    go_enter Tryz.func73, Tryz.ntmps73
    go_wp2_with fail
    refine (sv_impl _ cap rs _ (h.alloc _) hm).mono ?_
    rintro e w1 ⟨he, k1⟩
    rw [HS.out] at he
    subst he
    have n0 := k1.new 0 (v := .int .i64 s) rfl
    have n1 := k1.new 1 (v := .int .i64 d) rfl
    have n2 := k1.new 2 (v := .int .i64 k) rfl
    have n3 := k1.new 3 (v := .int .i64 v) rfl
    go_wp2_with fail
    refine (rv_impl s d k v _).mono ?_
    rintro e w2 ⟨he, hk2⟩
    rw [HR.out] at he
    subst he
    have k2 : Keep w1 w2 := hk2
    have m0 := k2.cell n0
    have m1 := k2.cell n1
    have m2 := k2.cell n2
    have m3 := k2.cell n3
    have k12 := ((Keep.refl w).alloc (.cells #[.int .i64 s, .int .i64 d, .int .i64 k, .int .i64 v] 54)).trans (k1.trans k2)
    have HR2 := Lib.hid (h.keep k12)
    clear n0 n1 n2 n3
    go_wp2_with fail
    have hs2 := k12.size
    have HC2 := Lib.hid (((Keep.refl w2).alloc (.cells #[.int .i64 s, .int .i64 d, .int .i64 k, .int .i64 v] 54)).alloc (.cells #[.slice (some ⟨b, off, none⟩) rs.length cap, .slice (some ⟨w2.heap.size, 0, none⟩) 1 1] 32))
    have HA : Hid (At4 ((w2.alloc (.cells #[.int .i64 s, .int .i64 d, .int .i64 k, .int .i64 v] 54)).alloc (.cells #[.slice (some ⟨b, off, none⟩) rs.length cap, .slice (some ⟨w2.heap.size, 0, none⟩) 1 1] 32)) w2.heap.size 0 (s, d, k, v)) := Lib.hid (by
      have k9 := (Keep.refl (w2.alloc (.cells #[.int .i64 s, .int .i64 d, .int .i64 k, .int .i64 v] 54))).alloc (.cells #[.slice (some ⟨b, off, none⟩) rs.length cap, .slice (some ⟨w2.heap.size, 0, none⟩) 1 1] 32)
      exact ⟨k9.new 0 rfl, k9.new 1 rfl, k9.new 2 rfl, k9.new 3 rfl⟩)
    have e0 : ∀ j, ((w2.alloc (.cells #[.int .i64 s, .int .i64 d, .int .i64 k, .int .i64 v] 54)).alloc (.cells #[.slice (some ⟨b, off, none⟩) rs.length cap, .slice (some ⟨w2.heap.size, 0, none⟩) 1 1] 32)).cell? ⟨w2.heap.size + 1, j, none⟩ = (#[.slice (some ⟨b, off, none⟩) rs.length cap, .slice (some ⟨w2.heap.size, 0, none⟩) 1 1] : Array Value)[j]? := fun j => by
      have h1 := World.cell?_alloc_new (w2.alloc (.cells #[.int .i64 s, .int .i64 d, .int .i64 k, .int .i64 v] 54)) #[.slice (some ⟨b, off, none⟩) rs.length cap, .slice (some ⟨w2.heap.size, 0, none⟩) 1 1] 32 j
      rw [show (w2.alloc (.cells #[.int .i64 s, .int .i64 d, .int .i64 k, .int .i64 v] 54)).heap.size = w2.heap.size + 1 by simp] at h1
      exact h1
    refine (concatT_any b off cap _ _ rs (s, d, k, v) _ (HR2.out.keep HC2.out) hl HA.out ((e0 0).trans rfl) ((e0 1).trans rfl)).mono ?_
    rintro e w3 ⟨g, c, rfl, hcp, hg, hlg, hW, k3⟩
    clear e0
    go_wp2
    go_ret2
    have hs3 := HC2.out.size
    exact ⟨_, c, by rw [H.out.1, H.out.2, List.length_append]; rfl, by rw [H.out.1, List.length_append]; exact hcp, .inr ⟨g, rfl, by omega, hlg, by rw [H.out.1]; exact hW⟩, (k12.trans HC2.out).trans k3⟩
end Go.Proofs.YtnemdnidlbekbaaGreatDoor
