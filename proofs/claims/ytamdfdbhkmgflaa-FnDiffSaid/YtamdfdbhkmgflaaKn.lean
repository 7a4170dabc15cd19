/- A key put at its place: spec.l42Put. -/
import Derived.Test.YtamdfdbhkmgflaaKm
import Derived.Test.YtamdfdbhkmgflaaKe
import Derived.Test.YtamdfdbhkmgflaaKi
import Derived.Outline
namespace Go.Proofs.Ytamdfdbhkmgflaa
open Go.RowKit
set_option linter.unusedVariables false

theorem fc1 {wq wN : World} {x0 x1 x2 : Int} (hg : World.grownBy ((wq.drew.alloc (.cells #[] 33)).alloc (.cells #[.int .i64 x0, .int .i64 x1, .int .i64 x2] 33)) wN (Value.slice (some ⟨wq.heap.size, 0, none⟩) 0 0).ownBlock) :
    ∀ j u, [Value.int .i64 x0, .int .i64 x1, .int .i64 x2][j]? = some u → wN.cell? ((⟨wq.heap.size + 1, 0, none⟩ : Addr).add j) = some u :=
  newsK3 (World.grownBy.cell hg (a := ⟨wq.heap.size + 1, 0, none⟩) (cell_newAt (by simp) rfl) (by simp [Value.ownBlock])) (World.grownBy.cell hg (a := ⟨wq.heap.size + 1, 1, none⟩) (cell_newAt (by simp) rfl) (by simp [Value.ownBlock])) (World.grownBy.cell hg (a := ⟨wq.heap.size + 1, 2, none⟩) (cell_newAt (by simp) rfl) (by simp [Value.ownBlock]))
theorem fc2 {wq wN : World} {x0 x1 x2 : Int} (hg : World.grownBy ((wq.drew.alloc (.cells #[.int .i64 x0, .int .i64 x1, .int .i64 x2] 33)).alloc (.cells #[] 33)) wN (Value.slice (some ⟨wq.heap.size + 1, 0, none⟩) 0 0).ownBlock) :
    ∀ j u, [Value.int .i64 x0, .int .i64 x1, .int .i64 x2][j]? = some u → wN.cell? ((⟨wq.heap.size, 0, none⟩ : Addr).add j) = some u :=
  have k : Keep (wq.drew.alloc (.cells #[.int .i64 x0, .int .i64 x1, .int .i64 x2] 33)) ((wq.drew.alloc (.cells #[.int .i64 x0, .int .i64 x1, .int .i64 x2] 33)).alloc (.cells #[] 33)) := (Keep.refl _).alloc _
  newsK3 (World.grownBy.cell hg (a := ⟨wq.heap.size, 0, none⟩) (k.cell (cell_newAt (by rfl) rfl)) (by simp [Value.ownBlock])) (World.grownBy.cell hg (a := ⟨wq.heap.size, 1, none⟩) (k.cell (cell_newAt (by rfl) rfl)) (by simp [Value.ownBlock])) (World.grownBy.cell hg (a := ⟨wq.heap.size, 2, none⟩) (k.cell (cell_newAt (by rfl) rfl)) (by simp [Value.ownBlock]))
/-- A list with a key put: the same row, or a new one. -/
def PutP (S : List K3) (X : K3) (g : Nat) (w : World) (e : Ending) (w' : World) : Prop :=
  ∃ g' c', e = .returned (.slice (some ⟨g', 0, none⟩) (kput S X).length c') ∧ (kput S X).length ≤ c' ∧ WrK w' g' (kput S X) ∧ (g' = g ∨ w.heap.size ≤ g') ∧ Keep w w'
set_option maxRecDepth 100000 in
set_option maxHeartbeats 8000000 in
theorem put_any (g c : Nat) (S : List K3) (x0 x1 x2 : Int) (w : World) (h : WrK w g S) (hm : S.length ≤ 1048576) (hc : S.length ≤ c) :
    Calls Try.prog 31 #[.slice (some ⟨g, 0, none⟩) S.length c, .agg #[.int .i64 x0, .int .i64 x1, .int .i64 x2]] w (PutP S (x0, x1, x2) g w) := by
  obtain ⟨i0, hi, hz0, hz1, hz2⟩ := info_parts infoKey
  have HP := Lib.hid (kput_parts S (x0, x1, x2))
  have HSt := Lib.hid (fun i => @kpos_stop S (x0, x1, x2) i)
  have HW := Lib.hid (h.keep ((Keep.refl w).alloc (.cells #[.int .i64 x0, .int .i64 x1, .int .i64 x2] 33)))
  have HB := Lib.hid (fun (b0 b1 b2 : Int) (W : World) => less_any b0 b1 b2 x0 x1 x2 W)
  obtain ⟨n, hn⟩ : ∃ n, S.length = n := ⟨_, rfl⟩
  have HLn := Lib.hid hn
  rw [hn] at hm hc HP
  rw [hn]
  simp only [hn] at HSt
  clear hn h
  have y0 : (w.alloc (.cells #[.int .i64 x0, .int .i64 x1, .int .i64 x2] 33)).cell? ⟨w.heap.size, 0, none⟩ = some (.int .i64 x0) := cell_newAt rfl rfl
  have y1 : (w.alloc (.cells #[.int .i64 x0, .int .i64 x1, .int .i64 x2] 33)).cell? ⟨w.heap.size, 1, none⟩ = some (.int .i64 x1) := cell_newAt rfl rfl
  have y2 : (w.alloc (.cells #[.int .i64 x0, .int .i64 x1, .int .i64 x2] 33)).cell? ⟨w.heap.size, 2, none⟩ = some (.int .i64 x2) := cell_newAt rfl rfl
  have hK0 : Keep w (w.alloc (.cells #[.int .i64 x0, .int .i64 x1, .int .i64 x2] 33)) := (Keep.refl w).alloc _
  have s1 : (w.alloc (.cells #[.int .i64 x0, .int .i64 x1, .int .i64 x2] 33)).heap.size = w.heap.size + 1 := by simp
  generalize hbx : w.heap.size = bx at y0 y1 y2 s1
  go_enter Try.func31, Try.ntmps31
  go_wp2_with fail
  generalize w.alloc (.cells #[.int .i64 x0, .int .i64 x1, .int .i64 x2] 33) = w1 at *
  go_loopw [5] (fun i wr => ∃ u : Nat, u ≤ n ∧ i = .int .i64 u ∧ Hid (∀ j, j < u → klt (S.getD j k0) (x0, x1, x2) = true) ∧ Keep w1 wr) (fun i _ => n - (intOf i).toNat)
  case atStart => exact ⟨0, by omega, rfl, Lib.hid (fun j hj => by omega), Keep.refl _⟩
  case round =>
    obtain ⟨u, hu, rfl, HA, hK⟩ := hrel
    have z0 := hK.cell y0
    have z1 := hK.cell y1
    have z2 := hK.cell y2
    have q1 : (0 : Int) ≤ (u : Int) := by omega
    have qc : (u : Int) ≤ (c : Int) := by omega
    by_cases huk : u < n
    · obtain ⟨⟨c0, c1, c2⟩, _⟩ := (HW.out.keep hK) u (by rw [HLn.out]; exact huk)
      have q2 : (u : Int) < (n : Int) := by omega
      have qcu : ¬ c = u := by omega
      have HX : Hid (S.getD u k0 = (kS (S.getD u k0), kD (S.getD u k0), kT (S.getD u k0))) := Lib.hid rfl
      have hcase := k_case (S.getD u k0) (x0, x1, x2)
      generalize kS (S.getD u k0) = a0 at *
      generalize kD (S.getD u k0) = a1 at *
      generalize kT (S.getD u k0) = a2 at *
      have HBx := Lib.hid (HB.out a0 a1 a2)
      have HXk : Hid (klt (S.getD u k0) (x0, x1, x2) = klt (a0, a1, a2) (x0, x1, x2)) := Lib.hid (by rw [HX.out])
      generalize klt (a0, a1, a2) (x0, x1, x2) = b at HBx HXk
      simp only [kS, kD, kT] at hcase
      have HALL : ∀ W, Keep wr W → (W.cell? ⟨g, u * 3, none⟩ = some (.int .i64 a0) ∧ W.cell? ⟨g, u * 3 + 1, none⟩ = some (.int .i64 a1) ∧ W.cell? ⟨g, u * 3 + 2, none⟩ = some (.int .i64 a2) ∧ W.cell? ⟨bx, 0, none⟩ = some (.int .i64 x0) ∧ W.cell? ⟨bx, 1, none⟩ = some (.int .i64 x1) ∧ W.cell? ⟨bx, 2, none⟩ = some (.int .i64 x2)) := fun W k => ⟨k.cell c0, k.cell c1, k.cell c2, k.cell z0, k.cell z1, k.cell z2⟩
      have HC := Lib.hid hcase
      clear hcase
      cases b
      case' false =>
        have HE := Lib.hid (HSt.out u (by omega) HA.out (.inr HXk.out))
      all_goals
        go_wp2_with fail
        go_region_held3 (fun w' => w'.cell? ⟨g, u * 3, none⟩ = some (.int .i64 a0) ∧ w'.cell? ⟨g, u * 3 + 1, none⟩ = some (.int .i64 a1) ∧ w'.cell? ⟨g, u * 3 + 2, none⟩ = some (.int .i64 a2) ∧ w'.cell? ⟨bx, 0, none⟩ = some (.int .i64 x0) ∧ w'.cell? ⟨bx, 1, none⟩ = some (.int .i64 x1) ∧ w'.cell? ⟨bx, 2, none⟩ = some (.int .i64 x2))
          ((first | exact HALL _ ((Keep.refl wr).drew) | exact HALL _ ((Keep.refl wr).drewN _) | exact HALL _ kA))
          ((go_at_call 46; refine (HBx.out _).mono ?_; rintro e wB ⟨rfl, hk⟩; have kA : Keep wr wB := Keep.trans (by (repeat' (first | with_reducible assumption | with_reducible exact Keep.refl _ | with_reducible refine Keep.drew ?_ | with_reducible refine Keep.drewN ?_ _ | with_reducible refine Keep.alloc ?_ _ | with_reducible refine Keep.trans ?_ hk))) hk))
      · obtain ⟨c0', c1', c2', z0', z1', z2'⟩ := HALL _ kA
        have kB := hK.trans kA
        clear c0 c1 c2 z0 z1 z2 HALL HA HB HBx HSt
        rcases HC.out with ⟨hne, e0⟩ | ⟨hne, e0, e1⟩ | ⟨hne, e0, e1, e2⟩ | he
        case' inr.inr.inr =>
          have HF : Hid (kput S (x0, x1, x2) = S) := Lib.hid (by rw [HP.out, HE.out, if_pos ⟨huk, he⟩])
          have hx := HX.out.symm.trans he
          simp only [Prod.mk.injEq] at hx
          obtain ⟨rfl, rfl, rfl⟩ := hx
          clear HC HX HXk he HE HP
          go_wp2_with fail
          go_quiet (fail)
          go_wp2
          go_ret
          refine ⟨g, c, by rw [HF.out, HLn.out]; rfl, by rw [HF.out, HLn.out]; exact hc, by rw [HF.out]; exact HW.out.keep (kB.drewN nq), .inl rfl, (hK0.trans kB).drewN nq⟩
        all_goals
          have HSp : Hid (S.take u ++ [(x0, x1, x2)] ++ S.drop u = kput S (x0, x1, x2)) := Lib.hid (by rw [HP.out, HE.out, if_neg (fun h => hne h.2)]; simp)
          have HL1 : Hid ((kput S (x0, x1, x2)).length = n + 1) := Lib.hid (by rw [← HSp.out]; simp [HLn.out]; omega)
          clear HC HX HXk HE HP hne
          go_wp2_with fail
          go_quiet (fail)
          clear c0' c1' c2' z0' z1' z2' e0
          go_wp2_with fail
          refine @abs_worldK (fun wq => Code.wp _ _ _ _ wq) _ (fun wq => Keep w1 wq) (by (repeat' (first | with_reducible assumption | with_reducible exact Keep.refl _ | with_reducible refine Keep.drew ?_ | with_reducible refine Keep.drewN ?_ _ | with_reducible refine Keep.alloc ?_ _ | with_reducible refine Keep.trans ?_ hk))) ?_
          rintro wq Kq
          have hbq : bx < wq.heap.size := by have := Kq.size; omega
          have z0 := Kq.cell y0
          have z1 := Kq.cell y1
          have z2 := Kq.cell y2
          have hLq := (HW.out.keep Kq).ks
          have HT := Lib.hid (ks_takeK hLq u)
          have HTl : Hid ((S.take u).length = u) := Lib.hid (by rw [List.length_take, HLn.out]; omega)
          have HD : Hid (Ks wq (some ⟨g, u * 3, none⟩) (S.drop u)) := Lib.hid (by have := ks_dropK hLq u; rwa [Nat.zero_add] at this)
          have HDl : Hid ((S.drop u).length = n - u) := Lib.hid (by rw [List.length_drop, HLn.out])
          have HUK : Hid (u ≤ n) := Lib.hid hu
          clear hLq hK
          have HOC : Hid (((wq.drew.alloc (.cells #[.int .i64 x0, .int .i64 x1, .int .i64 x2] 33)).alloc (.cells #[] 33)).ownsRow wq.heap.size 33 3 (.slice (some ⟨wq.heap.size + 1, 0, none⟩) 0 0) 0 []) := Lib.hid (by
            have h1 := (World.ownsRow_made (base := wq.heap.size) (e := 33) (size := 3) (wq.drew.alloc (.cells #[.int .i64 x0, .int .i64 x1, .int .i64 x2] 33)) #[] 0 ((Keep.refl wq).drew.alloc (.cells #[.int .i64 x0, .int .i64 x1, .int .i64 x2] 33)).size (by unfold maxLen; omega) rfl)
            rw [show (wq.drew.alloc (.cells #[.int .i64 x0, .int .i64 x1, .int .i64 x2] 33)).heap.size = wq.heap.size + 1 by simp] at h1
            exact h1)
          go_region_law (first
            | (refine step_app_ownK rfl _ _ _ rfl wq.heap.size 33 i0 _ 3 24 Try.underlying26 hi hz0 hz1 hz2 rfl (by decide) (.slice (some ⟨wq.heap.size, 0, none⟩) 0 0) 0 [] rfl (World.ownsRow_made (base := wq.heap.size) (e := 33) (size := 3) wq.drew #[] 0 (Keep.refl wq).drew.size (by unfold maxLen; omega) rfl) ⟨g, 0, none⟩ u _ (flatK (S.take u)) rfl (by rw [flatK_len, HTl.out]; try omega) (news_ksK (HT.out.keep ((Keep.refl wq).drew.alloc (.cells #[] 33)))) keys1 (by unfold maxLen; omega) (by omega) ((Keep.refl wq).drew.alloc (.cells #[] 33)).size ?_
               intro v1 wN hown1 hgrow1
               have hKN : Keep wq wN := Below.grown ((Keep.refl wq).drew.alloc (.cells #[] 33)) hgrow1 ((Keep.refl wq).drew.alloc (.cells #[] 33)).size (fun q hq => ((World.ownsRow_made (base := wq.heap.size) (e := 33) (size := 3) wq.drew #[] 0 (Keep.refl wq).drew.size (by unfold maxLen; omega) rfl).lt q hq).1)
               have z0' := hKN.cell z0; have z1' := hKN.cell z1; have z2' := hKN.cell z2
               have ho : wN.ownsRow wq.heap.size 33 3 v1 u (flatK (S.take u)) := by simpa using hown1
               clear hown1 hgrow1) 
            | (refine step_app_ownK rfl _ _ _ rfl wq.heap.size 33 i0 _ 3 24 Try.underlying26 hi hz0 hz1 hz2 rfl (by decide) (.slice (some ⟨wq.heap.size, 0, none⟩) 0 0) 0 [] rfl ((World.ownsRow_made (base := wq.heap.size) (e := 33) (size := 3) wq.drew #[] 0 (Keep.refl wq).drew.size (by unfold maxLen; omega) rfl).alloc (.cells #[.int .i64 x0, .int .i64 x1, .int .i64 x2] 33)) ⟨g, 0, none⟩ u _ (flatK (S.take u)) rfl (by rw [flatK_len, HTl.out]; try omega) (news_ksK (HT.out.keep (((Keep.refl wq).drew.alloc (.cells #[] 33)).alloc (.cells #[.int .i64 x0, .int .i64 x1, .int .i64 x2] 33)))) keys1 (by unfold maxLen; omega) (by omega) (((Keep.refl wq).drew.alloc (.cells #[] 33)).alloc (.cells #[.int .i64 x0, .int .i64 x1, .int .i64 x2] 33)).size ?_
               intro v1 wN hown1 hgrow1
               have hKN : Keep wq wN := Below.grown (((Keep.refl wq).drew.alloc (.cells #[] 33)).alloc (.cells #[.int .i64 x0, .int .i64 x1, .int .i64 x2] 33)) hgrow1 (((Keep.refl wq).drew.alloc (.cells #[] 33)).alloc (.cells #[.int .i64 x0, .int .i64 x1, .int .i64 x2] 33)).size (fun q hq => (((World.ownsRow_made (base := wq.heap.size) (e := 33) (size := 3) wq.drew #[] 0 (Keep.refl wq).drew.size (by unfold maxLen; omega) rfl).alloc (.cells #[.int .i64 x0, .int .i64 x1, .int .i64 x2] 33)).lt q hq).1)
               have z0' := hKN.cell z0; have z1' := hKN.cell z1; have z2' := hKN.cell z2
               have ho : wN.ownsRow wq.heap.size 33 3 v1 u (flatK (S.take u)) := by simpa using hown1
               have hBk : ∀ j y, [Value.int .i64 x0, .int .i64 x1, .int .i64 x2][j]? = some y → wN.cell? ((⟨wq.heap.size + 1, 0, none⟩ : Addr).add j) = some y := fc1 hgrow1
               clear hown1 hgrow1) 
            | (refine step_app_ownK rfl _ _ _ rfl wq.heap.size 33 i0 _ 3 24 Try.underlying26 hi hz0 hz1 hz2 rfl (by decide) (.slice (some ⟨wq.heap.size + 1, 0, none⟩) 0 0) 0 [] rfl HOC.out ⟨g, 0, none⟩ u _ (flatK (S.take u)) rfl (by rw [flatK_len, HTl.out]; try omega) (news_ksK (HT.out.keep (((Keep.refl wq).drew.alloc (.cells #[.int .i64 x0, .int .i64 x1, .int .i64 x2] 33)).alloc (.cells #[] 33)))) keys1 (by unfold maxLen; omega) (by omega) (((Keep.refl wq).drew.alloc (.cells #[.int .i64 x0, .int .i64 x1, .int .i64 x2] 33)).alloc (.cells #[] 33)).size ?_
               intro v1 wN hown1 hgrow1
               have hKN : Keep wq wN := Below.grown (((Keep.refl wq).drew.alloc (.cells #[.int .i64 x0, .int .i64 x1, .int .i64 x2] 33)).alloc (.cells #[] 33)) hgrow1 (((Keep.refl wq).drew.alloc (.cells #[.int .i64 x0, .int .i64 x1, .int .i64 x2] 33)).alloc (.cells #[] 33)).size (fun q hq => (HOC.out.lt q hq).1)
               have z0' := hKN.cell z0; have z1' := hKN.cell z1; have z2' := hKN.cell z2
               have ho : wN.ownsRow wq.heap.size 33 3 v1 u (flatK (S.take u)) := by simpa using hown1
               have hBk : ∀ j y, [Value.int .i64 x0, .int .i64 x1, .int .i64 x2][j]? = some y → wN.cell? ((⟨wq.heap.size, 0, none⟩ : Addr).add j) = some y := fc2 hgrow1
               clear hown1 hgrow1) 
            | (refine step_app_ownK rfl _ _ _ rfl wq.heap.size 33 i0 _ 3 24 Try.underlying26 hi hz0 hz1 hz2 rfl (by decide) _ u (flatK (S.take u)) rfl (ho.alloc (.cells #[.int .i64 x0, .int .i64 x1, .int .i64 x2] 33)) ⟨wN.heap.size, 0, none⟩ 1 1 [.int .i64 x0, .int .i64 x1, .int .i64 x2] rfl rfl (newsKN wN x0 x1 x2) one3 (by unfold maxLen; omega) (by omega) (hKN.alloc (.cells #[.int .i64 x0, .int .i64 x1, .int .i64 x2] 33)).size ?_
               intro v2 wM hown2 hgrow2
               have hKM : Keep wq wM := Below.grown (hKN.alloc (.cells #[.int .i64 x0, .int .i64 x1, .int .i64 x2] 33)) hgrow2 (hKN.alloc (.cells #[.int .i64 x0, .int .i64 x1, .int .i64 x2] 33)).size (fun q hq => ((ho.alloc (.cells #[.int .i64 x0, .int .i64 x1, .int .i64 x2] 33)).lt q hq).1)
               have ho2 : wM.ownsRow wq.heap.size 33 3 v2 (u + 1) (flatK (S.take u ++ [(x0, x1, x2)])) := by rw [flatK_app, flatK_one]; exact hown2
               clear hown2 hgrow2) 
            | (refine step_app_ownK rfl _ _ _ rfl wq.heap.size 33 i0 _ 3 24 Try.underlying26 hi hz0 hz1 hz2 rfl (by decide) _ u (flatK (S.take u)) rfl ho ⟨_, 0, none⟩ 1 1 [.int .i64 x0, .int .i64 x1, .int .i64 x2] rfl rfl hBk one3 (by unfold maxLen; omega) (by omega) hKN.size ?_
               intro v2 wM hown2 hgrow2
               have hKM : Keep wq wM := Below.grown hKN hgrow2 hKN.size (fun q hq => (ho.lt q hq).1)
               have ho2 : wM.ownsRow wq.heap.size 33 3 v2 (u + 1) (flatK (S.take u ++ [(x0, x1, x2)])) := by rw [flatK_app, flatK_one]; exact hown2
               clear hown2 hgrow2) 
            | (refine step_app_ownK rfl _ _ _ rfl wq.heap.size 33 i0 _ 3 24 Try.underlying26 hi hz0 hz1 hz2 rfl (by decide) _ (u + 1) (flatK (S.take u ++ [(x0, x1, x2)])) rfl ho2 ⟨g, u * 3, none⟩ (n - u) _ (flatK (S.drop u)) rfl (by rw [flatK_len, HDl.out]; try (have := HUK.out; omega)) (news_ksK (HD.out.keep hKM)) keys1 (by unfold maxLen; omega) (by omega) hKM.size ?_
               intro v3 wF hown3 hgrow3
               have HFK : Hid (Keep wq wF) := Lib.hid (Below.grown hKM hgrow3 hKM.size (fun q hq => (ho2.lt q hq).1))
               have HFO : Hid (wF.ownsRow wq.heap.size 33 3 v3 (n + 1) (flatK (kput S (x0, x1, x2)))) := Lib.hid (by
                 have h9 := hown3
                 rw [← flatK_app, HSp.out, show u + 1 + (n - u) = n + 1 by have := HUK.out; omega] at h9
                 exact h9)
               clear hown3 hgrow3))
          all_goals
            obtain ⟨g9, c9, rfl, hg9, hl9⟩ := HFO.out.form (by omega)
            have HC9 : Hid (n + 1 ≤ c9) := Lib.hid (own_capK HFO.out)
            have HW9 : Hid (WrK wF g9 (kput S (x0, x1, x2))) := Lib.hid (wrK_ownE HFO.out HL1.out.symm)
            have K9 : Hid (Keep w wF) := Lib.hid ((hK0.trans Kq).trans HFK.out)
            have hq9 := Kq.size
            clear HFO HFK
            go_wp2
            go_ret
            exact ⟨g9, c9, by rw [HL1.out]; rfl, by rw [HL1.out]; exact HC9.out, HW9.out, .inr (by omega), K9.out⟩
      · go_wp2
        go_roundw
        case rel => exact ⟨u + 1, by omega, by go_num, Lib.hid (fun j hj => by
          by_cases e : j < u
          · exact HA.out j e
          · obtain rfl : j = u := by omega
            exact HXk.out), hK.trans kA⟩
        case measure => simp [intOf]; omega
    · have hun : u = n := by omega
      have HE := Lib.hid (HSt.out u (by omega) HA.out (.inl hun))
      have HSp : Hid (S.take u ++ [(x0, x1, x2)] ++ S.drop u = kput S (x0, x1, x2)) := Lib.hid (by rw [HP.out, HE.out, if_neg (fun h => huk h.1)]; simp)
      have HL1 : Hid ((kput S (x0, x1, x2)).length = n + 1) := Lib.hid (by rw [← HSp.out]; simp [HLn.out]; omega)
      have uk : ¬ (u : Int) < (n : Int) := by omega
      clear HE HP HA HB HSt hun
      by_cases hcu : c = u
      · go_wp2_with fail
        go_quiet (fail)
        go_wp2_with fail
        go_quiet (fail)
        go_wp2_with fail
        refine @abs_worldK (fun wq => Code.wp _ _ _ _ wq) _ (fun wq => Keep w1 wq) (by (repeat' (first | with_reducible assumption | with_reducible exact Keep.refl _ | with_reducible refine Keep.drew ?_ | with_reducible refine Keep.drewN ?_ _ | with_reducible refine Keep.alloc ?_ _ | with_reducible refine Keep.trans ?_ hk))) ?_
        rintro wq Kq
        have hbq : bx < wq.heap.size := by have := Kq.size; omega
        have z0 := Kq.cell y0
        have z1 := Kq.cell y1
        have z2 := Kq.cell y2
        have hLq := (HW.out.keep Kq).ks
        have HT := Lib.hid (ks_takeK hLq u)
        have HTl : Hid ((S.take u).length = u) := Lib.hid (by rw [List.length_take, HLn.out]; omega)
        have HD : Hid (Ks wq (some ⟨g, 0, none⟩) (S.drop u)) := Lib.hid (.inl (List.drop_eq_nil_of_le (by rw [HLn.out]; omega)))
        have HDl : Hid ((S.drop u).length = n - u) := Lib.hid (by rw [List.length_drop, HLn.out])
        have HUK : Hid (u ≤ n) := Lib.hid hu
        clear hLq hK
        have HOC : Hid (((wq.drew.alloc (.cells #[.int .i64 x0, .int .i64 x1, .int .i64 x2] 33)).alloc (.cells #[] 33)).ownsRow wq.heap.size 33 3 (.slice (some ⟨wq.heap.size + 1, 0, none⟩) 0 0) 0 []) := Lib.hid (by
          have h1 := (World.ownsRow_made (base := wq.heap.size) (e := 33) (size := 3) (wq.drew.alloc (.cells #[.int .i64 x0, .int .i64 x1, .int .i64 x2] 33)) #[] 0 ((Keep.refl wq).drew.alloc (.cells #[.int .i64 x0, .int .i64 x1, .int .i64 x2] 33)).size (by unfold maxLen; omega) rfl)
          rw [show (wq.drew.alloc (.cells #[.int .i64 x0, .int .i64 x1, .int .i64 x2] 33)).heap.size = wq.heap.size + 1 by simp] at h1
          exact h1)
        go_region_law (first
          | (refine step_app_ownK rfl _ _ _ rfl wq.heap.size 33 i0 _ 3 24 Try.underlying26 hi hz0 hz1 hz2 rfl (by decide) (.slice (some ⟨wq.heap.size, 0, none⟩) 0 0) 0 [] rfl (World.ownsRow_made (base := wq.heap.size) (e := 33) (size := 3) wq.drew #[] 0 (Keep.refl wq).drew.size (by unfold maxLen; omega) rfl) ⟨g, 0, none⟩ u _ (flatK (S.take u)) rfl (by rw [flatK_len, HTl.out]; try omega) (news_ksK (HT.out.keep ((Keep.refl wq).drew.alloc (.cells #[] 33)))) keys1 (by unfold maxLen; omega) (by omega) ((Keep.refl wq).drew.alloc (.cells #[] 33)).size ?_
             intro v1 wN hown1 hgrow1
             have hKN : Keep wq wN := Below.grown ((Keep.refl wq).drew.alloc (.cells #[] 33)) hgrow1 ((Keep.refl wq).drew.alloc (.cells #[] 33)).size (fun q hq => ((World.ownsRow_made (base := wq.heap.size) (e := 33) (size := 3) wq.drew #[] 0 (Keep.refl wq).drew.size (by unfold maxLen; omega) rfl).lt q hq).1)
             have z0' := hKN.cell z0; have z1' := hKN.cell z1; have z2' := hKN.cell z2
             have ho : wN.ownsRow wq.heap.size 33 3 v1 u (flatK (S.take u)) := by simpa using hown1
             clear hown1 hgrow1) 
          | (refine step_app_ownK rfl _ _ _ rfl wq.heap.size 33 i0 _ 3 24 Try.underlying26 hi hz0 hz1 hz2 rfl (by decide) (.slice (some ⟨wq.heap.size, 0, none⟩) 0 0) 0 [] rfl ((World.ownsRow_made (base := wq.heap.size) (e := 33) (size := 3) wq.drew #[] 0 (Keep.refl wq).drew.size (by unfold maxLen; omega) rfl).alloc (.cells #[.int .i64 x0, .int .i64 x1, .int .i64 x2] 33)) ⟨g, 0, none⟩ u _ (flatK (S.take u)) rfl (by rw [flatK_len, HTl.out]; try omega) (news_ksK (HT.out.keep (((Keep.refl wq).drew.alloc (.cells #[] 33)).alloc (.cells #[.int .i64 x0, .int .i64 x1, .int .i64 x2] 33)))) keys1 (by unfold maxLen; omega) (by omega) (((Keep.refl wq).drew.alloc (.cells #[] 33)).alloc (.cells #[.int .i64 x0, .int .i64 x1, .int .i64 x2] 33)).size ?_
             intro v1 wN hown1 hgrow1
             have hKN : Keep wq wN := Below.grown (((Keep.refl wq).drew.alloc (.cells #[] 33)).alloc (.cells #[.int .i64 x0, .int .i64 x1, .int .i64 x2] 33)) hgrow1 (((Keep.refl wq).drew.alloc (.cells #[] 33)).alloc (.cells #[.int .i64 x0, .int .i64 x1, .int .i64 x2] 33)).size (fun q hq => (((World.ownsRow_made (base := wq.heap.size) (e := 33) (size := 3) wq.drew #[] 0 (Keep.refl wq).drew.size (by unfold maxLen; omega) rfl).alloc (.cells #[.int .i64 x0, .int .i64 x1, .int .i64 x2] 33)).lt q hq).1)
             have z0' := hKN.cell z0; have z1' := hKN.cell z1; have z2' := hKN.cell z2
             have ho : wN.ownsRow wq.heap.size 33 3 v1 u (flatK (S.take u)) := by simpa using hown1
             have hBk : ∀ j y, [Value.int .i64 x0, .int .i64 x1, .int .i64 x2][j]? = some y → wN.cell? ((⟨wq.heap.size + 1, 0, none⟩ : Addr).add j) = some y := fc1 hgrow1
             clear hown1 hgrow1) 
          | (refine step_app_ownK rfl _ _ _ rfl wq.heap.size 33 i0 _ 3 24 Try.underlying26 hi hz0 hz1 hz2 rfl (by decide) (.slice (some ⟨wq.heap.size + 1, 0, none⟩) 0 0) 0 [] rfl HOC.out ⟨g, 0, none⟩ u _ (flatK (S.take u)) rfl (by rw [flatK_len, HTl.out]; try omega) (news_ksK (HT.out.keep (((Keep.refl wq).drew.alloc (.cells #[.int .i64 x0, .int .i64 x1, .int .i64 x2] 33)).alloc (.cells #[] 33)))) keys1 (by unfold maxLen; omega) (by omega) (((Keep.refl wq).drew.alloc (.cells #[.int .i64 x0, .int .i64 x1, .int .i64 x2] 33)).alloc (.cells #[] 33)).size ?_
             intro v1 wN hown1 hgrow1
             have hKN : Keep wq wN := Below.grown (((Keep.refl wq).drew.alloc (.cells #[.int .i64 x0, .int .i64 x1, .int .i64 x2] 33)).alloc (.cells #[] 33)) hgrow1 (((Keep.refl wq).drew.alloc (.cells #[.int .i64 x0, .int .i64 x1, .int .i64 x2] 33)).alloc (.cells #[] 33)).size (fun q hq => (HOC.out.lt q hq).1)
             have z0' := hKN.cell z0; have z1' := hKN.cell z1; have z2' := hKN.cell z2
             have ho : wN.ownsRow wq.heap.size 33 3 v1 u (flatK (S.take u)) := by simpa using hown1
             have hBk : ∀ j y, [Value.int .i64 x0, .int .i64 x1, .int .i64 x2][j]? = some y → wN.cell? ((⟨wq.heap.size, 0, none⟩ : Addr).add j) = some y := fc2 hgrow1
             clear hown1 hgrow1) 
          | (refine step_app_ownK rfl _ _ _ rfl wq.heap.size 33 i0 _ 3 24 Try.underlying26 hi hz0 hz1 hz2 rfl (by decide) _ u (flatK (S.take u)) rfl (ho.alloc (.cells #[.int .i64 x0, .int .i64 x1, .int .i64 x2] 33)) ⟨wN.heap.size, 0, none⟩ 1 1 [.int .i64 x0, .int .i64 x1, .int .i64 x2] rfl rfl (newsKN wN x0 x1 x2) one3 (by unfold maxLen; omega) (by omega) (hKN.alloc (.cells #[.int .i64 x0, .int .i64 x1, .int .i64 x2] 33)).size ?_
             intro v2 wM hown2 hgrow2
             have hKM : Keep wq wM := Below.grown (hKN.alloc (.cells #[.int .i64 x0, .int .i64 x1, .int .i64 x2] 33)) hgrow2 (hKN.alloc (.cells #[.int .i64 x0, .int .i64 x1, .int .i64 x2] 33)).size (fun q hq => ((ho.alloc (.cells #[.int .i64 x0, .int .i64 x1, .int .i64 x2] 33)).lt q hq).1)
             have ho2 : wM.ownsRow wq.heap.size 33 3 v2 (u + 1) (flatK (S.take u ++ [(x0, x1, x2)])) := by rw [flatK_app, flatK_one]; exact hown2
             clear hown2 hgrow2) 
          | (refine step_app_ownK rfl _ _ _ rfl wq.heap.size 33 i0 _ 3 24 Try.underlying26 hi hz0 hz1 hz2 rfl (by decide) _ u (flatK (S.take u)) rfl ho ⟨_, 0, none⟩ 1 1 [.int .i64 x0, .int .i64 x1, .int .i64 x2] rfl rfl hBk one3 (by unfold maxLen; omega) (by omega) hKN.size ?_
             intro v2 wM hown2 hgrow2
             have hKM : Keep wq wM := Below.grown hKN hgrow2 hKN.size (fun q hq => (ho.lt q hq).1)
             have ho2 : wM.ownsRow wq.heap.size 33 3 v2 (u + 1) (flatK (S.take u ++ [(x0, x1, x2)])) := by rw [flatK_app, flatK_one]; exact hown2
             clear hown2 hgrow2) 
          | (refine step_app_ownK rfl _ _ _ rfl wq.heap.size 33 i0 _ 3 24 Try.underlying26 hi hz0 hz1 hz2 rfl (by decide) _ (u + 1) (flatK (S.take u ++ [(x0, x1, x2)])) rfl ho2 ⟨g, 0, none⟩ (n - u) _ (flatK (S.drop u)) rfl (by rw [flatK_len, HDl.out]; try (have := HUK.out; omega)) (news_ksK (HD.out.keep hKM)) keys1 (by unfold maxLen; omega) (by omega) hKM.size ?_
             intro v3 wF hown3 hgrow3
             have HFK : Hid (Keep wq wF) := Lib.hid (Below.grown hKM hgrow3 hKM.size (fun q hq => (ho2.lt q hq).1))
             have HFO : Hid (wF.ownsRow wq.heap.size 33 3 v3 (n + 1) (flatK (kput S (x0, x1, x2)))) := Lib.hid (by
               have h9 := hown3
               rw [← flatK_app, HSp.out, show u + 1 + (n - u) = n + 1 by have := HUK.out; omega] at h9
               exact h9)
             clear hown3 hgrow3))
        all_goals
          obtain ⟨g9, c9, rfl, hg9, hl9⟩ := HFO.out.form (by omega)
          have HC9 : Hid (n + 1 ≤ c9) := Lib.hid (own_capK HFO.out)
          have HW9 : Hid (WrK wF g9 (kput S (x0, x1, x2))) := Lib.hid (wrK_ownE HFO.out HL1.out.symm)
          have K9 : Hid (Keep w wF) := Lib.hid ((hK0.trans Kq).trans HFK.out)
          have hq9 := Kq.size
          clear HFO HFK
          go_wp2
          go_ret
          exact ⟨g9, c9, by rw [HL1.out]; rfl, by rw [HL1.out]; exact HC9.out, HW9.out, .inr (by omega), K9.out⟩
      · go_wp2_with fail
        go_quiet (fail)
        go_wp2_with fail
        go_quiet (fail)
        go_wp2_with fail
        refine @abs_worldK (fun wq => Code.wp _ _ _ _ wq) _ (fun wq => Keep w1 wq) (by (repeat' (first | with_reducible assumption | with_reducible exact Keep.refl _ | with_reducible refine Keep.drew ?_ | with_reducible refine Keep.drewN ?_ _ | with_reducible refine Keep.alloc ?_ _ | with_reducible refine Keep.trans ?_ hk))) ?_
        rintro wq Kq
        have hbq : bx < wq.heap.size := by have := Kq.size; omega
        have z0 := Kq.cell y0
        have z1 := Kq.cell y1
        have z2 := Kq.cell y2
        have hLq := (HW.out.keep Kq).ks
        have HT := Lib.hid (ks_takeK hLq u)
        have HTl : Hid ((S.take u).length = u) := Lib.hid (by rw [List.length_take, HLn.out]; omega)
        have HD : Hid (Ks wq (some ⟨g, u * 3, none⟩) (S.drop u)) := Lib.hid (by have := ks_dropK hLq u; rwa [Nat.zero_add] at this)
        have HDl : Hid ((S.drop u).length = n - u) := Lib.hid (by rw [List.length_drop, HLn.out])
        have HUK : Hid (u ≤ n) := Lib.hid hu
        clear hLq hK
        have HOC : Hid (((wq.drew.alloc (.cells #[.int .i64 x0, .int .i64 x1, .int .i64 x2] 33)).alloc (.cells #[] 33)).ownsRow wq.heap.size 33 3 (.slice (some ⟨wq.heap.size + 1, 0, none⟩) 0 0) 0 []) := Lib.hid (by
          have h1 := (World.ownsRow_made (base := wq.heap.size) (e := 33) (size := 3) (wq.drew.alloc (.cells #[.int .i64 x0, .int .i64 x1, .int .i64 x2] 33)) #[] 0 ((Keep.refl wq).drew.alloc (.cells #[.int .i64 x0, .int .i64 x1, .int .i64 x2] 33)).size (by unfold maxLen; omega) rfl)
          rw [show (wq.drew.alloc (.cells #[.int .i64 x0, .int .i64 x1, .int .i64 x2] 33)).heap.size = wq.heap.size + 1 by simp] at h1
          exact h1)
        go_region_law (first
          | (refine step_app_ownK rfl _ _ _ rfl wq.heap.size 33 i0 _ 3 24 Try.underlying26 hi hz0 hz1 hz2 rfl (by decide) (.slice (some ⟨wq.heap.size, 0, none⟩) 0 0) 0 [] rfl (World.ownsRow_made (base := wq.heap.size) (e := 33) (size := 3) wq.drew #[] 0 (Keep.refl wq).drew.size (by unfold maxLen; omega) rfl) ⟨g, 0, none⟩ u _ (flatK (S.take u)) rfl (by rw [flatK_len, HTl.out]; try omega) (news_ksK (HT.out.keep ((Keep.refl wq).drew.alloc (.cells #[] 33)))) keys1 (by unfold maxLen; omega) (by omega) ((Keep.refl wq).drew.alloc (.cells #[] 33)).size ?_
             intro v1 wN hown1 hgrow1
             have hKN : Keep wq wN := Below.grown ((Keep.refl wq).drew.alloc (.cells #[] 33)) hgrow1 ((Keep.refl wq).drew.alloc (.cells #[] 33)).size (fun q hq => ((World.ownsRow_made (base := wq.heap.size) (e := 33) (size := 3) wq.drew #[] 0 (Keep.refl wq).drew.size (by unfold maxLen; omega) rfl).lt q hq).1)
             have z0' := hKN.cell z0; have z1' := hKN.cell z1; have z2' := hKN.cell z2
             have ho : wN.ownsRow wq.heap.size 33 3 v1 u (flatK (S.take u)) := by simpa using hown1
             clear hown1 hgrow1) 
          | (refine step_app_ownK rfl _ _ _ rfl wq.heap.size 33 i0 _ 3 24 Try.underlying26 hi hz0 hz1 hz2 rfl (by decide) (.slice (some ⟨wq.heap.size, 0, none⟩) 0 0) 0 [] rfl ((World.ownsRow_made (base := wq.heap.size) (e := 33) (size := 3) wq.drew #[] 0 (Keep.refl wq).drew.size (by unfold maxLen; omega) rfl).alloc (.cells #[.int .i64 x0, .int .i64 x1, .int .i64 x2] 33)) ⟨g, 0, none⟩ u _ (flatK (S.take u)) rfl (by rw [flatK_len, HTl.out]; try omega) (news_ksK (HT.out.keep (((Keep.refl wq).drew.alloc (.cells #[] 33)).alloc (.cells #[.int .i64 x0, .int .i64 x1, .int .i64 x2] 33)))) keys1 (by unfold maxLen; omega) (by omega) (((Keep.refl wq).drew.alloc (.cells #[] 33)).alloc (.cells #[.int .i64 x0, .int .i64 x1, .int .i64 x2] 33)).size ?_
             intro v1 wN hown1 hgrow1
             have hKN : Keep wq wN := Below.grown (((Keep.refl wq).drew.alloc (.cells #[] 33)).alloc (.cells #[.int .i64 x0, .int .i64 x1, .int .i64 x2] 33)) hgrow1 (((Keep.refl wq).drew.alloc (.cells #[] 33)).alloc (.cells #[.int .i64 x0, .int .i64 x1, .int .i64 x2] 33)).size (fun q hq => (((World.ownsRow_made (base := wq.heap.size) (e := 33) (size := 3) wq.drew #[] 0 (Keep.refl wq).drew.size (by unfold maxLen; omega) rfl).alloc (.cells #[.int .i64 x0, .int .i64 x1, .int .i64 x2] 33)).lt q hq).1)
             have z0' := hKN.cell z0; have z1' := hKN.cell z1; have z2' := hKN.cell z2
             have ho : wN.ownsRow wq.heap.size 33 3 v1 u (flatK (S.take u)) := by simpa using hown1
             have hBk : ∀ j y, [Value.int .i64 x0, .int .i64 x1, .int .i64 x2][j]? = some y → wN.cell? ((⟨wq.heap.size + 1, 0, none⟩ : Addr).add j) = some y := fc1 hgrow1
             clear hown1 hgrow1) 
          | (refine step_app_ownK rfl _ _ _ rfl wq.heap.size 33 i0 _ 3 24 Try.underlying26 hi hz0 hz1 hz2 rfl (by decide) (.slice (some ⟨wq.heap.size + 1, 0, none⟩) 0 0) 0 [] rfl HOC.out ⟨g, 0, none⟩ u _ (flatK (S.take u)) rfl (by rw [flatK_len, HTl.out]; try omega) (news_ksK (HT.out.keep (((Keep.refl wq).drew.alloc (.cells #[.int .i64 x0, .int .i64 x1, .int .i64 x2] 33)).alloc (.cells #[] 33)))) keys1 (by unfold maxLen; omega) (by omega) (((Keep.refl wq).drew.alloc (.cells #[.int .i64 x0, .int .i64 x1, .int .i64 x2] 33)).alloc (.cells #[] 33)).size ?_
             intro v1 wN hown1 hgrow1
             have hKN : Keep wq wN := Below.grown (((Keep.refl wq).drew.alloc (.cells #[.int .i64 x0, .int .i64 x1, .int .i64 x2] 33)).alloc (.cells #[] 33)) hgrow1 (((Keep.refl wq).drew.alloc (.cells #[.int .i64 x0, .int .i64 x1, .int .i64 x2] 33)).alloc (.cells #[] 33)).size (fun q hq => (HOC.out.lt q hq).1)
             have z0' := hKN.cell z0; have z1' := hKN.cell z1; have z2' := hKN.cell z2
             have ho : wN.ownsRow wq.heap.size 33 3 v1 u (flatK (S.take u)) := by simpa using hown1
             have hBk : ∀ j y, [Value.int .i64 x0, .int .i64 x1, .int .i64 x2][j]? = some y → wN.cell? ((⟨wq.heap.size, 0, none⟩ : Addr).add j) = some y := fc2 hgrow1
             clear hown1 hgrow1) 
          | (refine step_app_ownK rfl _ _ _ rfl wq.heap.size 33 i0 _ 3 24 Try.underlying26 hi hz0 hz1 hz2 rfl (by decide) _ u (flatK (S.take u)) rfl (ho.alloc (.cells #[.int .i64 x0, .int .i64 x1, .int .i64 x2] 33)) ⟨wN.heap.size, 0, none⟩ 1 1 [.int .i64 x0, .int .i64 x1, .int .i64 x2] rfl rfl (newsKN wN x0 x1 x2) one3 (by unfold maxLen; omega) (by omega) (hKN.alloc (.cells #[.int .i64 x0, .int .i64 x1, .int .i64 x2] 33)).size ?_
             intro v2 wM hown2 hgrow2
             have hKM : Keep wq wM := Below.grown (hKN.alloc (.cells #[.int .i64 x0, .int .i64 x1, .int .i64 x2] 33)) hgrow2 (hKN.alloc (.cells #[.int .i64 x0, .int .i64 x1, .int .i64 x2] 33)).size (fun q hq => ((ho.alloc (.cells #[.int .i64 x0, .int .i64 x1, .int .i64 x2] 33)).lt q hq).1)
             have ho2 : wM.ownsRow wq.heap.size 33 3 v2 (u + 1) (flatK (S.take u ++ [(x0, x1, x2)])) := by rw [flatK_app, flatK_one]; exact hown2
             clear hown2 hgrow2) 
          | (refine step_app_ownK rfl _ _ _ rfl wq.heap.size 33 i0 _ 3 24 Try.underlying26 hi hz0 hz1 hz2 rfl (by decide) _ u (flatK (S.take u)) rfl ho ⟨_, 0, none⟩ 1 1 [.int .i64 x0, .int .i64 x1, .int .i64 x2] rfl rfl hBk one3 (by unfold maxLen; omega) (by omega) hKN.size ?_
             intro v2 wM hown2 hgrow2
             have hKM : Keep wq wM := Below.grown hKN hgrow2 hKN.size (fun q hq => (ho.lt q hq).1)
             have ho2 : wM.ownsRow wq.heap.size 33 3 v2 (u + 1) (flatK (S.take u ++ [(x0, x1, x2)])) := by rw [flatK_app, flatK_one]; exact hown2
             clear hown2 hgrow2) 
          | (refine step_app_ownK rfl _ _ _ rfl wq.heap.size 33 i0 _ 3 24 Try.underlying26 hi hz0 hz1 hz2 rfl (by decide) _ (u + 1) (flatK (S.take u ++ [(x0, x1, x2)])) rfl ho2 ⟨g, u * 3, none⟩ (n - u) _ (flatK (S.drop u)) rfl (by rw [flatK_len, HDl.out]; try (have := HUK.out; omega)) (news_ksK (HD.out.keep hKM)) keys1 (by unfold maxLen; omega) (by omega) hKM.size ?_
             intro v3 wF hown3 hgrow3
             have HFK : Hid (Keep wq wF) := Lib.hid (Below.grown hKM hgrow3 hKM.size (fun q hq => (ho2.lt q hq).1))
             have HFO : Hid (wF.ownsRow wq.heap.size 33 3 v3 (n + 1) (flatK (kput S (x0, x1, x2)))) := Lib.hid (by
               have h9 := hown3
               rw [← flatK_app, HSp.out, show u + 1 + (n - u) = n + 1 by have := HUK.out; omega] at h9
               exact h9)
             clear hown3 hgrow3))
        all_goals
          obtain ⟨g9, c9, rfl, hg9, hl9⟩ := HFO.out.form (by omega)
          have HC9 : Hid (n + 1 ≤ c9) := Lib.hid (own_capK HFO.out)
          have HW9 : Hid (WrK wF g9 (kput S (x0, x1, x2))) := Lib.hid (wrK_ownE HFO.out HL1.out.symm)
          have K9 : Hid (Keep w wF) := Lib.hid ((hK0.trans Kq).trans HFK.out)
          have hq9 := Kq.size
          clear HFO HFK
          go_wp2
          go_ret
          exact ⟨g9, c9, by rw [HL1.out]; rfl, by rw [HL1.out]; exact HC9.out, HW9.out, .inr (by omega), K9.out⟩
end Go.Proofs.Ytamdfdbhkmgflaa
