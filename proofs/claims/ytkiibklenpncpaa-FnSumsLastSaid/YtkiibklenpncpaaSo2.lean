/- Sums: the model answers 'suL'; two slices of sums held against each other. -/
import Derived.Test.YtkiibklenpncpaaSn
import Derived.Deep.RegionWith
namespace Go.Proofs.Ytkiibklenpncpaa
open Go.RowKit
set_option linter.unusedVariables false

theorem own_keepU {w w' : World} {base e n size : Nat} {v : Value} {xs : List Value} (h : w.ownsRow base e size v n xs) (k : Keep w w') : w'.ownsRow base e size v n xs := by
  refine World.ownsRow.kept h (⟨Below.os k, Below.tape k, Below.output k, Below.size k, fun i hi _ => Below.block k i hi⟩ : w.grownBy w' none) ?_
  cases hv : v.ownBlock with
  | none => left; rfl
  | some k => right; simp
set_option maxRecDepth 100000 in
set_option maxHeartbeats 4000000 in
theorem su_spec (a : Option Addr) (cap : Nat) (zs : List Int) (w : World) (h : Ls w a zs) (hm : zs.length ≤ 1048576) :
    Calls Try.prog 30 #[.slice a zs.length cap] w (NwUB (suL zs) (sqB zs) w) := by
  obtain ⟨i0, hi0, hz0, hz1, hz2⟩ := info_parts infoRng
  have HQ := Lib.hid (sqv_spec a cap zs w h (by omega))
  rcases Bool.eq_false_or_eq_true (sqB zs) with hs | hs
  case' inr =>
    have HN := Lib.hid (And.intro (suL_no hs) hs)
    rw [hs] at HQ
    clear hs
    go_enter Try.func30, Try.ntmps30
    go_wp2_with fail
    refine HQ.out.mono ?_
    rintro e w1 ⟨rfl, rfl⟩
    go_wp2
    go_ret2
    rw [HN.out.1, HN.out.2]
    exact ⟨_, 0, rfl, Nat.le_refl _, .inl rfl, (Keep.refl _).alloc _⟩
  have HY := Lib.hid (And.intro (suL_yes hs) hs)
  have hl := (sq_facts hs).2
  have HAt := Lib.hid (fun (k : Nat) (hk : k < zs.length) => sq_at hs hk)
  have HBd := Lib.hid (fun (k : Nat) (hk : k ≤ zs.length) => su_bd hs hk)
  have HStep := Lib.hid (fun (k : Nat) (hk : k < zs.length) => su_sadd (zs := zs) hk)
  have HSn := Lib.hid (fun (k : Nat) (hk : k ≤ zs.length) => sul_snoc (zs := zs) hk)
  have HLn : Hid ((sul zs).length = zs.length + 1) := Lib.hid (sul_len zs)
  rw [hs] at HQ
  clear hs
  go_enter Try.func30, Try.ntmps30
  go_wp2_with fail
  refine HQ.out.mono ?_
  rintro e w1 ⟨rfl, rfl⟩
  clear HQ
  go_wp2_with fail
  go_loopw [5, 6] (fun u i wr => ∃ (k g c : Nat), k ≤ zs.length ∧ i = .int .i64 k ∧ u = .slice (some ⟨g, 0, none⟩) (k + 1) c ∧ Hid (wr.ownsRow (w.heap.size + 1) 53 2 (.slice (some ⟨g, 0, none⟩) (k + 1) c) (k + 1) (flatU ((sul zs).take (k + 1)))) ∧
      (wr.cell? ⟨w.heap.size, 0, none⟩ = some (.int .i64 (su zs k).1) ∧ wr.cell? ⟨w.heap.size, 1, none⟩ = some (.int .i64 (su zs k).2)) ∧ (wr.frozen? ⟨w.heap.size, 0, none⟩ = false ∧ wr.frozen? ⟨w.heap.size, 1, none⟩ = false) ∧ w.heap.size + 1 < wr.heap.size ∧ Keep w wr) (fun _ i _ => zs.length - (intOf i).toNat)
  case atStart =>
    have e1 : (sul zs).take (0 + 1) = [(0, 0)] := by
      rw [HSn.out 0 (by omega)]; simp [su_zero]
    have hO : Hid (((w.alloc (.cells #[.int .i64 0, .int .i64 0] 53)).alloc (.cells #[.int .i64 0, .int .i64 0] 53)).ownsRow (w.heap.size + 1) 53 2 (.slice (some ⟨w.heap.size + 1, 0, none⟩) 1 1) 1 (flatU ((sul zs).take (0 + 1)))) := Lib.hid (by
      rw [e1]
      have h1 := World.ownsRow_lit (base := w.heap.size + 1) (e := 53) (size := 2) (w.alloc (.cells #[.int .i64 0, .int .i64 0] 53)) #[.int .i64 0, .int .i64 0] 1 (by simp) (by unfold maxLen; omega) rfl
      rw [show (w.alloc (.cells #[.int .i64 0, .int .i64 0] 53)).heap.size = w.heap.size + 1 by simp] at h1
      exact h1)
    have hk := ((Keep.refl (w.alloc (.cells #[.int .i64 0, .int .i64 0] 53))).alloc (.cells #[.int .i64 0, .int .i64 0] 53))
    exact ⟨0, w.heap.size + 1, 1, by omega, rfl, rfl, hO, ⟨hk.new 0 rfl, hk.new 1 rfl⟩, ⟨hk.fresh 0, hk.fresh 1⟩, by simp, ((Keep.refl w).alloc _).alloc _⟩
  case round =>
    obtain ⟨k, g, cc, hk, rfl, rfl, HW, ⟨c0, c1⟩, ⟨f0, f1⟩, hlw, hK⟩ := hrel
    have hsz := hK.size
    by_cases hlt : k < zs.length
    · obtain ⟨b, off, rfl, hb, cz⟩ := (h.keep hK).at_ hlt
      have bx := HAt.out k hlt
      obtain ⟨⟨b0, b1⟩, b2, b3⟩ := HBd.out k hk
      have HS := Lib.hid (HStep.out k hlt)
      have HSn1 := Lib.hid (HSn.out (k + 1) (by omega))
      have k0 : (0 : Int) ≤ (k : Int) := by omega
      have kz : (k : Int) < (zs.length : Int) := by omega
      generalize su zs k = s0 at *
      generalize zs.getD k 0 = x at *
      obtain ⟨t, m⟩ := s0
      dsimp only at c0 c1 b0 b1 b2 b3
      obtain ⟨s1, hs1⟩ : ∃ s1, sadd (t, m) x = s1 := ⟨_, rfl⟩
      have HA := Lib.hid (fun W => ladd_any t m x W (by omega) (by omega) (by omega) (by omega) (by omega) (by omega))
      have HSa : Hid (su zs (k + 1) = s1) := Lib.hid (HS.out.trans hs1)
      rw [hs1] at HA
      rw [HSa.out] at HSn1
      obtain ⟨t', m'⟩ := s1
      obtain ⟨L, hL⟩ : ∃ L, (sul zs).take (k + 1) = L := ⟨_, rfl⟩
      have HLk : Hid (L.length = k + 1) := Lib.hid (by rw [← hL, List.length_take, HLn.out]; omega)
      rw [hL] at HW HSn1
      clear hL HS hs1
      go_wp2_with fail
      go_region_with (first | (go_at_call 74; refine (HA.out _).mono ?_; rintro e w5 ⟨rfl, hk5⟩; have k5 := ((Keep.refl wr).drew).trans hk5; have e0 := k5.cell c0; have e1 := k5.cell c1; have g0 := k5.still c0 f0; have g1 := k5.still c1 f1))
      all_goals
        have hK5 := hK.trans k5
        have hown5 : w5.ownsRow (w.heap.size + 1) 53 2 (.slice (some ⟨g, 0, none⟩) (k + 1) cc) (k + 1) (flatU L) := own_keepU HW.out k5
        have hlw5 : w.heap.size + 1 < w5.heap.size := Nat.lt_of_lt_of_le hlw k5.size
        generalize hw6 : (w5.setCell ⟨w.heap.size, 0, none⟩ (.int .i64 t')).setCell ⟨w.heap.size, 1, none⟩ (.int .i64 m') = w6
        have q0 : w6.cell? ⟨w.heap.size, 0, none⟩ = some (.int .i64 t') := by
          rw [← hw6, World.cell?_setCell_other _ _ _ _ (by simp)]; exact World.cell?_setCell_same _ _ _ e0
        have q1 : w6.cell? ⟨w.heap.size, 1, none⟩ = some (.int .i64 m') := by
          rw [← hw6]; exact World.cell?_setCell_same _ _ _ ((World.cell?_setCell_other _ _ _ _ (by simp)).trans e1)
        have r0 : w6.frozen? ⟨w.heap.size, 0, none⟩ = false := by rw [← hw6, World.frozen?_setCell, World.frozen?_setCell]; exact g0
        have r1 : w6.frozen? ⟨w.heap.size, 1, none⟩ = false := by rw [← hw6, World.frozen?_setCell, World.frozen?_setCell]; exact g1
        have hK6 : Keep w w6 := by rw [← hw6]; exact (hK5.setCell (Nat.le_refl _) _).setCell (Nat.le_refl _) _
        have hlw6 : w.heap.size + 1 < w6.heap.size := by rw [← hw6]; simpa [World.setCell] using hlw5
        have hown6 : w6.ownsRow (w.heap.size + 1) 53 2 (.slice (some ⟨g, 0, none⟩) (k + 1) cc) (k + 1) (flatU L) := by
          rw [← hw6]; exact ownsRow_setCell_below (ownsRow_setCell_below hown5 (by simp) _) (by simp) _
        clear hw6 hK5 hown5 hlw5 hk5 k5 e0 e1 g0 g1 c0 c1 f0 f1 HW HA
        go_wp2_with (at_builtin; refine wpList_append_own _ rfl _ _ 48 rfl (w.heap.size + 1) 53 i0 _ 2 16 Try.underlying48 hi0 hz0 hz1 hz2 rfl (by decide) _ _ _ rfl (hown6.alloc _) ⟨w6.heap.size, 0, none⟩ 1 1 (uc (t', m')) rfl rfl ?c1a ?c2a ?c3a ?c4a ?c5a ?_)
        try case c1a => exact newsU_one (r := (t', m')) (⟨World.cell?_alloc_new w6 _ _ 0, World.cell?_alloc_new w6 _ _ 1⟩ : At2 _ w6.heap.size 0 (t', m'))
        case c2a => exact uc_one _
        case c3a => unfold maxLen; omega
        case c4a => omega
        case c5a => first | omega | (simp; omega)
        intro v' w9 hown' hgrow hnil
        have hB : Below (w.heap.size + 1) w6 w9 := Below.grown (Below.alloc (Below.refl (w.heap.size + 1) w6) (by omega) (.cells #[.int .i64 t', .int .i64 m'] 53)) hgrow (by simp; omega) (fun q hq => (hown6.lt q hq).1)
        have HK2 : Hid (Keep w w9) := Lib.hid (Below.trans hK6 (Below.mono hB (by omega)))
        have C0 : w9.cell? ⟨w.heap.size, 0, none⟩ = some (.int .i64 t') := (Below.cell hB (by simp)).trans q0
        have C1 : w9.cell? ⟨w.heap.size, 1, none⟩ = some (.int .i64 m') := (Below.cell hB (by simp)).trans q1
        have F0 : w9.frozen? ⟨w.heap.size, 0, none⟩ = false := (Below.frozen hB (by simp)).trans r0
        have F1 : w9.frozen? ⟨w.heap.size, 1, none⟩ = false := (Below.frozen hB (by simp)).trans r1
        have hL9 : w.heap.size + 1 < w9.heap.size := Nat.lt_of_lt_of_le hlw6 hB.size
        have hNew : ∃ g' c', v' = .slice (some ⟨g', 0, none⟩) (k + 1 + 1) c' ∧ Hid (w9.ownsRow (w.heap.size + 1) 53 2 (.slice (some ⟨g', 0, none⟩) (k + 1 + 1) c') (k + 1 + 1) (flatU ((sul zs).take (k + 1 + 1)))) := by
          rw [HSn1.out, flatU_app, flatU_one]
          obtain ⟨hx1, hx2⟩ := id hown'
          rcases hx2 with ⟨_, hx3⟩ | ⟨g', c', cur, hx3, _⟩
          · omega
          · subst hx3; exact ⟨g', c', rfl, Lib.hid hown'⟩
        obtain ⟨g', c', rfl, HN2⟩ := hNew
        clear hgrow hnil hown' hown6 hB
        go_wp2
        go_roundw
        case rel => exact ⟨k + 1, g', c', by omega, by go_num, rfl, HN2, by rw [HSa.out]; exact ⟨C0, C1⟩, ⟨F0, F1⟩, hL9, HK2.out⟩
        case measure => simp [intOf]; omega
    · obtain rfl : k = zs.length := by omega
      have HF : Hid (OwnU wr (w.heap.size + 1) (.slice (some ⟨g, 0, none⟩) (sul zs).length cc) (sul zs)) := Lib.hid (by
        have h1 := HW.out
        rw [List.take_of_length_le (by rw [HLn.out]; exact Nat.le_refl _)] at h1
        unfold OwnU
        rw [HLn.out]
        exact h1)
      go_wp2
      go_ret2
      rw [HY.out.1, HY.out.2]
      have h9 : NwU (sul zs) w (.returned (.slice (some ⟨g, 0, none⟩) (sul zs).length cc)) wr := nwU_own HF.out (by omega) hK
      obtain ⟨x7, c7, hx7, hc7, hF7, k7⟩ := h9
      injection hx7 with hx7
      injection hx7 with e1 e2 e3
      subst e1; subst e3
      exact ⟨some ⟨g, 0, none⟩, _, (by rw [HLn.out]; rfl), hc7, hF7, k7⟩
end Go.Proofs.Ytkiibklenpncpaa
