/- Compact stores: the model and the program answer 'cpL'. -/
import Derived.Test.YtlaajompcbmdoabVw
import Derived.Test.YtlaajompcbmdoabSg
import Derived.Test.YtlaajompcbmdoabSa
import Derived.Deep.RegionHeld3
import Derived.Outline
import Derived.LoopTactic
import Derived.Deep.QuietTactic
import Derived.BigQuiet
namespace Go.Proofs.Ytlaajompcbmdoab
open Go.RowKit
set_option linter.unusedVariables false

def CpPost (rs : List R4) (w : World) (e : Ending) (w' : World) : Prop :=
  ∃ (a : Option Addr) (c : Nat), e = .returned (.slice a (cpL rs).length c) ∧ (cpL rs).length ≤ c ∧ FrR w w' a (cpL rs) ∧ Keep w w'
theorem cp_post_no {rs : List R4} {w w' : World} (h : cpL rs = []) (a : Option Addr) (c : Nat) (k : Keep w w') : CpPost rs w (.returned (.slice a 0 c)) w' :=
  ⟨a, c, by rw [h]; rfl, by rw [h]; exact Nat.zero_le _, .inl h, k⟩
theorem frR_own {w wr : World} {base : Nat} {ga : Option Addr} {c : Nat} {ys : List R4} (h : wr.ownsRow base 46 4 (.slice ga ys.length c) ys.length (flatR ys)) (hb : w.heap.size ≤ base) : FrR w wr ga ys ∧ ys.length ≤ c := by
  by_cases hz : ys = []
  · exact ⟨.inl hz, by rw [hz]; exact Nat.zero_le _⟩
  · obtain ⟨g, c', he, _, _⟩ := h.form (List.length_pos_iff.2 hz)
    simp only [Value.slice.injEq] at he
    obtain ⟨rfl, _, rfl⟩ := he
    exact ⟨.inr ⟨g, rfl, Nat.le_trans hb (World.ownsRow.lt h g rfl).1, (World.ownsRow.lt h g rfl).2, wrR_own h rfl⟩, own_cap h⟩
theorem own_keepP {w w' : World} {base e n size : Nat} {v : Value} {xs : List Value} (h : w.ownsRow base e size v n xs) (k : Keep w w') : w'.ownsRow base e size v n xs := by
  refine World.ownsRow.kept h (⟨Below.os k, Below.tape k, Below.output k, Below.size k, fun i hi _ => Below.block k i hi⟩ : w.grownBy w' none) ?_
  cases hv : v.ownBlock with
  | none => left; rfl
  | some k => right; simp
theorem newsP (w : World) {s d k v : Int} :
    ∀ j u, (rc (s, d, k, v))[j]? = some u → (w.alloc (.cells #[.int .i64 s, .int .i64 d, .int .i64 k, .int .i64 v] 46)).cell? ((⟨w.heap.size, 0, none⟩ : Addr).add j) = some u := by
  intro j u hj
  rw [Addr.add_lit, Nat.zero_add, World.cell?_alloc_new, ← hj]
  simp [rc, rS, rD, rK, rV]
theorem cpL_len (rs : List R4) : (cpL rs).length ≤ 40 := by
  cases h : stB rs
  · rw [cpL_no h]; simp
  · rw [cpL_yes h]; exact Nat.le_trans (cpN_len rs _) (stB_facts h).2

set_option maxRecDepth 100000 in
set_option maxHeartbeats 4000000 in
theorem cp_impl (a : Option Addr) (cap : Nat) (rs : List R4) (w : World) (h : Rs w a rs) (hm : rs.length ≤ 1048576) (hc : rs.length ≤ cap) :
    Calls Try.prog 35 #[.slice a rs.length cap] w (CpPost rs w) := by
  rcases Bool.eq_false_or_eq_true (stB rs) with hs | hs
  case' inr =>
    have H : Hid (cpL rs = []) := Lib.hid (cpL_no hs)
    go_enter Try.func35, Try.ntmps35
    go_wp2_with (go_at_call 39; refine (sv_impl a cap rs _ h (by omega)).mono ?_; rintro e w1 ⟨he, k1⟩; rw [hs] at he; subst he)
    go_ret
    exact cp_post_no H.out none 0 k1
  have hl := (stB_facts hs).2
  have HO := Lib.hid (cpL_yes hs)
  have HB := Lib.hid hs
  have HV := Lib.hid (fun (k : Nat) (hk : k < rs.length) (s d t : Int) W (hW : Keep w W) => by
    have h1 := val2_any a cap rs (k : Nat) s d t W (h.keep hW) hm hc
    rw [svV_yes (by simp [vrB, hs, inB]; omega) s d t] at h1
    exact h1)
  obtain ⟨i0, hi, hz0, hz1, hz2⟩ := info_parts infoRep
  clear hs
  go_enter Try.func35, Try.ntmps35
  go_wp2_with (go_at_call 39; refine (sv_impl a cap rs _ h (by omega)).mono ?_; rintro e w1 ⟨he, k1⟩; rw [HB.out] at he; subst he)
  have hz := k1.size
  go_loopw [3, 11] (fun u i wr => ∃ (k n c : Nat) (ga : Option Addr), k ≤ rs.length ∧ i = .int .i64 k ∧ u = .slice ga n c ∧ Hid (n = (cpN rs k).length) ∧ Hid (wr.ownsRow w1.heap.size 46 4 (.slice ga n c) n (flatR (cpN rs k))) ∧ Keep w1 wr) (fun _ i _ => rs.length - (intOf i).toNat)
  case atStart => exact ⟨0, 0, 0, none, by omega, rfl, rfl, Lib.hid rfl, Lib.hid (World.ownsRow_nil w1 _ _ _), Keep.refl w1⟩
  case round =>
    obtain ⟨k, n, c, ga, hk, rfl, rfl, HLN, HW, hK⟩ := hrel
    have hsz := hK.size
    have hln := cpN_len rs k
    by_cases hlt : k < rs.length
    · have HV1 := Lib.hid (HV.out k hlt)
      obtain ⟨b, off, rfl, hb, hcc⟩ := ((h.keep k1).keep hK).at_ hlt
      have HY : Hid (nwB rs k = true → cpN rs (k + 1) = cpN rs k ++ [(rS (rs.getD k r0), rD (rs.getD k r0), rK (rs.getD k r0), rV (rs.getD k r0))]) := Lib.hid (fun hy => by rw [cpN, if_pos hy]; rfl)
      have HNO : Hid (nwB rs k = false → cpN rs (k + 1) = cpN rs k) := Lib.hid (fun hy => by rw [cpN, if_neg (by rw [hy]; simp)])
      have HCB : Hid (nwB rs k = decide (vN rs (rS (rs.getD k r0)) (rD (rs.getD k r0)) (rK (rs.getD k r0)) k ≠ rV (rs.getD k r0))) := Lib.hid rfl
      obtain ⟨c0, c1, c2, c3⟩ := hcc
      generalize hx0 : rS (rs.getD k r0) = x0 at c0 HCB HY
      generalize hx1 : rD (rs.getD k r0) = x1 at c1 HCB HY
      generalize hx2 : rK (rs.getD k r0) = x2 at c2 HCB HY
      generalize hx3 : rV (rs.getD k r0) = x3 at c3 HCB HY
      clear hx0 hx1 hx2 hx3
      have HV2 := Lib.hid (HV1.out x0 x1 x2)
      generalize vN rs x0 x1 x2 k = y at HV2 HCB
      clear HV1
      have hcase : (y = x3 ∧ nwB rs k = false) ∨ ((y != x3) = true ∧ nwB rs k = true) := by
        rw [HCB.out]
        by_cases e1 : y = x3 <;> simp [e1]
      clear HCB
      have hown := HW.out
      obtain ⟨W0, hW0⟩ : ∃ W0, W0 = wr.alloc (.cells #[.int .i64 x0, .int .i64 x1, .int .i64 x2, .int .i64 x3] 46) := ⟨_, rfl⟩
      have p0 : W0.cell? ⟨wr.heap.size, 0, none⟩ = some (.int .i64 x0) := by rw [hW0]; exact (World.cell?_alloc_new wr _ _ 0)
      have p1 : W0.cell? ⟨wr.heap.size, 1, none⟩ = some (.int .i64 x1) := by rw [hW0]; exact (World.cell?_alloc_new wr _ _ 1)
      have p2 : W0.cell? ⟨wr.heap.size, 2, none⟩ = some (.int .i64 x2) := by rw [hW0]; exact (World.cell?_alloc_new wr _ _ 2)
      have p3 : W0.cell? ⟨wr.heap.size, 3, none⟩ = some (.int .i64 x3) := by rw [hW0]; exact (World.cell?_alloc_new wr _ _ 3)
      have KW0 : Keep w1 W0 := by rw [hW0]; exact hK.alloc _
      have HKW := Lib.hid (k1.trans KW0)
      have HOW : Hid (W0.ownsRow w1.heap.size 46 4 (.slice ga n c) n (flatR (cpN rs k))) := Lib.hid (by rw [hW0]; exact hown.alloc _)
      have HSa : ∀ W, Keep W0 W → (W.cell? ⟨wr.heap.size, 0, none⟩ = some (.int .i64 x0) ∧ W.cell? ⟨wr.heap.size, 1, none⟩ = some (.int .i64 x1) ∧ W.cell? ⟨wr.heap.size, 2, none⟩ = some (.int .i64 x2) ∧ W.cell? ⟨wr.heap.size, 3, none⟩ = some (.int .i64 x3)) := fun W kW => ⟨kW.cell p0, kW.cell p1, kW.cell p2, kW.cell p3⟩
      rcases hcase with ⟨rfl, ey⟩ | ⟨e1, ey⟩
      · replace HY := Lib.hid (HNO.out ey)
        clear ey HNO
        go_wp2_with fail
        rw [← hW0]
        clear hW0
        go_region_held3 (fun w' => w'.cell? ⟨wr.heap.size, 0, none⟩ = some (.int .i64 x0) ∧ w'.cell? ⟨wr.heap.size, 1, none⟩ = some (.int .i64 x1) ∧ w'.cell? ⟨wr.heap.size, 2, none⟩ = some (.int .i64 x2) ∧ w'.cell? ⟨wr.heap.size, 3, none⟩ = some (.int .i64 y)) ((first | (go_simp; done) | exact HSa _ (Keep.refl _) | exact HSa _ ((Keep.refl _).drewN 1) | exact HSa _ kA | exact HSa _ kB | exact HSa _ kC | go_keep))
          (first
            | (go_at_call 60; refine (as_any _ _ _ _ _).mono ?_; rintro e wA ⟨rfl, kA'⟩; have kA : Keep W0 wA := Keep.trans ((Keep.refl W0).drewN 1) kA')
            | (go_at_call 49; refine (key_impl x0 x1 x2 y _).mono ?_; rintro e wB ⟨rfl, kB'⟩; have kB : Keep W0 wB := Keep.trans kA kB')
            | (go_at_call 61; refine (HV2.out _ (Keep.trans HKW.out kB)).mono ?_; rintro e wC ⟨rfl, kC'⟩; have kC : Keep W0 wC := Keep.trans kB kC'))
        go_wp2
        go_roundw
        case rel => exact ⟨k + 1, n, c, ga, by omega, by go_num, rfl, Lib.hid (by rw [HY.out]; exact HLN.out), Lib.hid (by rw [HY.out]; exact own_keepP HOW.out kC), KW0.trans kC⟩
        case measure => simp [intOf]; omega
      · have hne : ¬ y = x3 := by simpa using e1
        replace HY := Lib.hid (HY.out ey)
        clear ey HNO
        go_wp2_with fail
        rw [← hW0]
        clear hW0
        go_region_held3 (fun w' => w'.cell? ⟨wr.heap.size, 0, none⟩ = some (.int .i64 x0) ∧ w'.cell? ⟨wr.heap.size, 1, none⟩ = some (.int .i64 x1) ∧ w'.cell? ⟨wr.heap.size, 2, none⟩ = some (.int .i64 x2) ∧ w'.cell? ⟨wr.heap.size, 3, none⟩ = some (.int .i64 x3)) ((first | (go_simp; done) | exact HSa _ (Keep.refl _) | exact HSa _ ((Keep.refl _).drewN 1) | exact HSa _ kA | exact HSa _ kB | exact HSa _ kC | go_keep))
          (first
            | (go_at_call 60; refine (as_any _ _ _ _ _).mono ?_; rintro e wA ⟨rfl, kA'⟩; have kA : Keep W0 wA := Keep.trans ((Keep.refl W0).drewN 1) kA')
            | (go_at_call 49; refine (key_impl x0 x1 x2 x3 _).mono ?_; rintro e wB ⟨rfl, kB'⟩; have kB : Keep W0 wB := Keep.trans kA kB')
            | (go_at_call 61; refine (HV2.out _ (Keep.trans HKW.out kB)).mono ?_; rintro e wC ⟨rfl, kC'⟩; have kC : Keep W0 wC := Keep.trans kB kC'))
        obtain ⟨m0, m1, m2, m3⟩ := HSa _ kC
        have hlen : n ≤ 40 := by rw [HLN.out]; omega
        have hown2 : wC.ownsRow w1.heap.size 46 4 (.slice ga n c) n (flatR (cpN rs k)) := own_keepP HOW.out kC
        have HKC : Hid (Keep w1 wC) := Lib.hid (KW0.trans kC)
        have hsC := HKC.out.size
        go_wp2_with (at_builtin; go_loud (refine wpList_append_own _ rfl _ _ 28 rfl w1.heap.size 46 i0 (.agg #[.int .i64 0, .int .i64 0, .int .i64 0, .int .i64 0]) 4 32 Try.underlying28 hi hz0 hz1 hz2 rfl (by decide) _ _ _ rfl (hown2.alloc _) ⟨wC.heap.size, 0, none⟩ 1 1 (rc (x0, x1, x2, x3)) rfl rfl (newsP wC) ?c2a ?c3a ?c4a ?c5a ?_))
        case c2a => exact rc_one _
        case c3a => unfold maxLen; omega
        case c4a => omega
        case c5a => first | omega | (simp; omega)
        intro v' w5 hown' hgrow hnil
        obtain ⟨g', c', rfl, hbg, hlg⟩ := hown'.form (by omega)
        have HN : Hid (w5.ownsRow w1.heap.size 46 4 (.slice (some ⟨g', 0, none⟩) (n + 1) c') (n + 1) (flatR (cpN rs (k + 1)))) := Lib.hid (by rw [HY.out, flatR_app, flatR_one]; exact hown')
        have HN2 : Hid (n + 1 = (cpN rs (k + 1)).length) := Lib.hid (by rw [HY.out, List.length_append, ← HLN.out]; rfl)
        have HK2 : Hid (Keep w1 w5) := Lib.hid (Below.grown (HKC.out.alloc (.cells #[.int .i64 x0, .int .i64 x1, .int .i64 x2, .int .i64 x3] 46)) hgrow (HKC.out.alloc (.cells #[.int .i64 x0, .int .i64 x1, .int .i64 x2, .int .i64 x3] 46)).size (fun q hq => (hown2.lt q hq).1))
        clear hown' hgrow hnil hown hown2 hlen
        go_wp2
        go_roundw
        case rel => exact ⟨k + 1, n + 1, c', some ⟨g', 0, none⟩, by omega, by go_num, rfl, HN2, HN, HK2.out⟩
        case measure => simp [intOf]; omega
    · obtain rfl : k = rs.length := by omega
      have HF := Lib.hid (frR_own (w := w) (by have h1 := HW.out; rw [HLN.out] at h1; exact h1) hz)
      go_wp2
      go_ret
      exact ⟨ga, c, by rw [HO.out, HLN.out]; rfl, by rw [HO.out]; exact HF.out.2, by rw [HO.out]; exact HF.out.1, k1.trans hK⟩
set_option maxRecDepth 100000 in
set_option maxHeartbeats 4000000 in
theorem cp_spec (a : Option Addr) (cap : Nat) (rs : List R4) (w : World) (h : Rs w a rs) (hm : rs.length ≤ 1048576) (hc : rs.length ≤ cap) :
    Calls Try.prog 34 #[.slice a rs.length cap] w (CpPost rs w) := by
  rcases Bool.eq_false_or_eq_true (stB rs) with hs | hs
  case' inr =>
    have H : Hid (cpL rs = []) := Lib.hid (cpL_no hs)
    have HB := Lib.hid hs
    clear hs
    go_enter Try.func34, Try.ntmps34
    go_wp2_with fail
    go_loopw [3, 4] (fun u i wr => ∃ (g c : Nat), i = .int .i64 0 ∧ u = .slice (some ⟨g, 0, none⟩) 0 c ∧ Keep w wr) (fun _ i _ => 1)
    case atStart => exact ⟨_, _, rfl, rfl, (Keep.refl w).alloc _⟩
    case round =>
      obtain ⟨g, c, rfl, rfl, hK⟩ := hrel
      have HS := Lib.hid (sv_spec a cap rs wr (h.keep hK) (by omega))
      rw [HB.out] at HS
      by_cases h0 : 0 < (rs.length : Int)
      · go_wp2_with (go_at_call 27; refine HS.out.mono ?_; rintro e w1 ⟨rfl, k1⟩)
        go_ret
        exact cp_post_no H.out _ _ (hK.trans k1)
      · go_wp2_with fail
        go_ret
        exact cp_post_no H.out _ _ hK
  have hl := (stB_facts hs).2
  have HO := Lib.hid (cpL_yes hs)
  have HB := Lib.hid hs
  obtain ⟨i0, hi, hz0, hz1, hz2⟩ := info_parts infoRep
  clear hs
  go_enter Try.func34, Try.ntmps34
  go_wp2_with fail
  go_loopw [3, 4] (fun u i wr => ∃ (k n g c : Nat), k ≤ rs.length ∧ i = .int .i64 k ∧ u = .slice (some ⟨g, 0, none⟩) n c ∧ Hid (n = (cpN rs k).length) ∧ Hid (wr.ownsRow w.heap.size 46 4 (.slice (some ⟨g, 0, none⟩) n c) n (flatR (cpN rs k))) ∧ Keep w wr) (fun _ i _ => rs.length - (intOf i).toNat)
  case atStart => exact ⟨0, 0, w.heap.size, 0, by omega, rfl, rfl, Lib.hid rfl, Lib.hid (World.ownsRow_made w #[] 0 (Nat.le_refl _) (by unfold maxLen; omega) rfl), (Keep.refl w).alloc _⟩
  case round =>
    obtain ⟨k, n, g, c, hk, rfl, rfl, HLN, HW, hK⟩ := hrel
    have hsz := hK.size
    have hln := cpN_len rs k
    have HS := Lib.hid (sv_spec a cap rs wr (h.keep hK) (by omega))
    rw [HB.out] at HS
    by_cases hlt : k < rs.length
    · go_wp2_with (go_at_call 27; refine HS.out.mono ?_; rintro e w1 ⟨rfl, k1⟩)
      have HK1 := Lib.hid (hK.trans k1)
      have HOW : Hid (w1.ownsRow w.heap.size 46 4 (.slice (some ⟨g, 0, none⟩) n c) n (flatR (cpN rs k))) := Lib.hid (own_keepP HW.out k1)
      obtain ⟨b, off, rfl, hb, hcc⟩ := (h.keep HK1.out).at_ hlt
      have HY : Hid (nwB rs k = true → cpN rs (k + 1) = cpN rs k ++ [(rS (rs.getD k r0), rD (rs.getD k r0), rK (rs.getD k r0), rV (rs.getD k r0))]) := Lib.hid (fun hy => by rw [cpN, if_pos hy]; rfl)
      have HNO : Hid (nwB rs k = false → cpN rs (k + 1) = cpN rs k) := Lib.hid (fun hy => by rw [cpN, if_neg (by rw [hy]; simp)])
      have HCB : Hid (nwB rs k = decide (vN rs (rS (rs.getD k r0)) (rD (rs.getD k r0)) (rK (rs.getD k r0)) k ≠ rV (rs.getD k r0))) := Lib.hid rfl
      have HL := Lib.hid (len_take hk)
      have HT := Lib.hid (fun s d t => vN_take rs s d t k hk k (Nat.le_refl _))
      obtain ⟨c0, c1, c2, c3⟩ := hcc
      generalize hx0 : rS (rs.getD k r0) = x0 at c0 HCB HY
      generalize hx1 : rD (rs.getD k r0) = x1 at c1 HCB HY
      generalize hx2 : rK (rs.getD k r0) = x2 at c2 HCB HY
      generalize hx3 : rV (rs.getD k r0) = x3 at c3 HCB HY
      clear hx0 hx1 hx2 hx3
      have HV : Hid (∀ m, Calls Try.prog 59 #[.slice (some ⟨b, off, none⟩) k cap, .int .i64 x0, .int .i64 x1, .int .i64 x2] (w1.drewN m) fun e w' => e = .returned (.int .i64 (vN rs x0 x1 x2 k)) ∧ w1.drewN m = w') := Lib.hid (fun m => by
        have h1 := l11_any _ cap (rs.take k) x0 x1 x2 (w1.drewN m) (((h.keep HK1.out).keep ((Keep.refl w1).drewN m)).take k) (by rw [HL.out]; omega)
        rw [HL.out, HT.out] at h1
        exact h1)
      generalize vN rs x0 x1 x2 k = y at HV HCB
      have hcase : ((y = x3 ∧ (y != x3) = false) ∧ nwB rs k = false) ∨ ((y != x3) = true ∧ nwB rs k = true) := by
        rw [HCB.out]
        by_cases e1 : y = x3 <;> simp [e1]
      clear HCB
      have q0 : (0 : Int) ≤ (k : Int) := by omega
      have q1 : (k : Int) ≤ (cap : Int) := by omega
      go_quiet ((go_at_call 59; exact quietT (HV.out _)))
      have HKD : Hid (Keep w (w1.drewN nq)) := Lib.hid (HK1.out.drewN nq)
      have HOD : Hid ((w1.drewN nq).ownsRow w.heap.size 46 4 (.slice (some ⟨g, 0, none⟩) n c) n (flatR (cpN rs k))) := Lib.hid (own_keepP HOW.out ((Keep.refl w1).drewN nq))
      have d0 : (w1.drewN nq).cell? ⟨b, off + k * 4, none⟩ = some (.int .i64 x0) := ((Keep.refl w1).drewN nq).cell c0
      have d1 : (w1.drewN nq).cell? ⟨b, off + k * 4 + 1, none⟩ = some (.int .i64 x1) := ((Keep.refl w1).drewN nq).cell c1
      have d2 : (w1.drewN nq).cell? ⟨b, off + k * 4 + 2, none⟩ = some (.int .i64 x2) := ((Keep.refl w1).drewN nq).cell c2
      have d3 : (w1.drewN nq).cell? ⟨b, off + k * 4 + 3, none⟩ = some (.int .i64 x3) := ((Keep.refl w1).drewN nq).cell c3
      generalize w1.drewN nq = w2 at HKD HOD d0 d1 d2 d3 ⊢
      have hs2 := HKD.out.size
      clear c0 c1 c2 c3 HV HK1 HOW HT HL
      rcases hcase with ⟨⟨e0, e1⟩, ey⟩ | ⟨e1, ey⟩
      · replace HY := Lib.hid (HNO.out ey)
        clear ey HNO
        go_wp2
        go_roundw
        case rel => exact ⟨k + 1, n, g, c, by omega, by go_num, rfl, Lib.hid (by rw [HY.out]; exact HLN.out), Lib.hid (by rw [HY.out]; exact HOD.out), HKD.out⟩
        case measure => simp [intOf]; omega
      · have hne : ¬ y = x3 := by simpa using e1
        replace HY := Lib.hid (HY.out ey)
        clear ey HNO
        have hlen : n ≤ 40 := by rw [HLN.out]; omega
        have hown := HOD.out
        go_wp2_with (at_builtin; refine wpList_append_own _ rfl _ _ 28 rfl w.heap.size 46 i0 (.agg #[.int .i64 0, .int .i64 0, .int .i64 0, .int .i64 0]) 4 32 Try.underlying28 hi hz0 hz1 hz2 rfl (by decide) _ _ _ rfl (hown.alloc _) ⟨w2.heap.size, 0, none⟩ 1 1 (rc (x0, x1, x2, x3)) rfl rfl (newsP w2) ?c2b ?c3b ?c4b ?c5b ?_)
        case c2b => exact rc_one _
        case c3b => unfold maxLen; omega
        case c4b => omega
        case c5b => first | omega | (simp; omega)
        intro v' w5 hown' hgrow hnil
        obtain ⟨g', c', rfl, hbg, hlg⟩ := hown'.form (by omega)
        have HN : Hid (w5.ownsRow w.heap.size 46 4 (.slice (some ⟨g', 0, none⟩) (n + 1) c') (n + 1) (flatR (cpN rs (k + 1)))) := Lib.hid (by rw [HY.out, flatR_app, flatR_one]; exact hown')
        have HN2 : Hid (n + 1 = (cpN rs (k + 1)).length) := Lib.hid (by rw [HY.out, List.length_append, ← HLN.out]; rfl)
        have HK2 : Hid (Keep w w5) := Lib.hid (Below.grown (HKD.out.alloc (.cells #[.int .i64 x0, .int .i64 x1, .int .i64 x2, .int .i64 x3] 46)) hgrow (HKD.out.alloc (.cells #[.int .i64 x0, .int .i64 x1, .int .i64 x2, .int .i64 x3] 46)).size (fun q hq => (hown.lt q hq).1))
        clear hown' hgrow hnil hown hlen
        go_wp2
        go_roundw
        case rel => exact ⟨k + 1, n + 1, g', c', by omega, by go_num, rfl, HN2, HN, HK2.out⟩
        case measure => simp [intOf]; omega
    · obtain rfl : k = rs.length := by omega
      have HF := Lib.hid (frR_own (w := w) (by have h1 := HW.out; rw [HLN.out] at h1; exact h1) (Nat.le_refl _))
      go_wp2
      go_ret
      exact ⟨_, c, by rw [HO.out, HLN.out]; rfl, by rw [HO.out]; exact HF.out.2, by rw [HO.out]; exact HF.out.1, hK⟩
end Go.Proofs.Ytlaajompcbmdoab
