/- Series of a store: the program's function and the model's. -/
import Derived.Test.YtnemdnidlbekbaaGreatDoorSe
namespace Go.Proofs.YtnemdnidlbekbaaGreatDoor
open Go.RowKit
set_option linter.unusedVariables false

theorem ssOk_v {rs : List R4} {v s t f n : Int} (h : vrB rs v = false) : ssOk rs v s t f n = false := by simp [ssOk, h]
theorem ssOk_s {rs : List R4} {v s t f n : Int} (h : saB s t f n = false) : ssOk rs v s t f n = false := by simp [ssOk, h]
theorem infoIntS : (Tryz.prog.info? 3).map (fun i => (i.zero, i.size, i.bytes)) = some (some (.int .i64 0), 1, 8) := by kernel_rfl
theorem serN_at {rs : List R4} {v : Nat} {s t f : Int} {m k : Nat} (h : k < m) : (serN rs v s t f m).getD k 0 = vN rs s (f + (k : Int)) t v := by
  simp [serN, List.getD_eq_getElem?_getD, h]

set_option maxRecDepth 100000 in
set_option maxHeartbeats 2000000 in
theorem ss_impl (a : Option Addr) (cap : Nat) (rs : List R4) (v s t f n : Int) (w : World) (h : Rs w a rs) (hm : rs.length ≤ 4611686018427387904) (hc : rs.length ≤ cap) :
    Calls Tryz.prog 122 #[.slice a rs.length cap, .int .i64 v, .int .i64 s, .int .i64 t, .int .i64 f, .int .i64 n] w (SsPost rs v s t f n w) := by
  rcases Bool.eq_false_or_eq_true (vrB rs v) with hv | hv
  · rcases Bool.eq_false_or_eq_true (saB s t f n) with hs | hs
    · have hok : ssOk rs v s t f n = true := by rw [ssOk, hv, hs]; rfl
      obtain ⟨hst, hl, x, rfl, hx⟩ := vrB_facts hv
      obtain ⟨_, _, ⟨f0, f1⟩, m, rfl, m0, m1⟩ := saB_facts hs
      have HB := Lib.hid (And.intro hv hs)
      have HO := Lib.hid (And.intro hok (ssL_yes hok))
      have HA := Lib.hid (stB_facts hst).1
      have HL := Lib.hid (len_take hx)
      have HT := Lib.hid (fun s d t => vN_take rs s d t x hx x (Nat.le_refl _))
      have hmk := Lib.hid (fun W => run_make_row' (P := Tryz.prog) 64 3 (.int .i64 0) 8 Tryz.underlying64 infoIntS rfl .i64 .i64 m (by omega) (by omega) W)
      clear hv hs hok hst
      have q0 : (0 : Int) ≤ (x : Int) := by omega
      have q1 : (x : Int) ≤ (cap : Int) := by omega
      go_enter Tryz.func122, Tryz.ntmps122
      go_wp2_with (first | (go_at_call 134; refine (vv_impl a cap rs x _ h hm).mono ?_; rintro e w1 ⟨he, k1⟩; rw [HB.out.1] at he; subst he) | (go_at_call 135; refine (sa_impl s t f m _).mono ?_; rintro e w' ⟨he, rfl⟩; rw [HB.out.2] at he; subst he))
      have HK := Lib.hid (link_any a cap (rs.take x) w1 ((h.keep k1).take x) (by rw [HL.out]; omega))
      rw [HL.out] at HK
      go_wp2_with fail
      refine HK.out.mono ?_
      rintro e w2 ⟨p, rfl, hch, k2⟩
      have HC := Lib.hid hch
      have k12 := k1.trans k2
      have hz := k12.size
      have hmk2 := hmk.out w2
      clear hch HK hmk
      go_wp2_with fail
      go_loopw [37] (fun i wr => ∃ k : Nat, k ≤ m ∧ i = .int .i64 k ∧ Hid (Wr wr w2.heap.size ((serN rs x s t f m).take k ++ List.replicate (m - k) 0)) ∧ w2.heap.size < wr.heap.size ∧ Keep w2 wr) (fun i _ => m - (intOf i).toNat)
      case atStart =>
        refine ⟨0, by omega, rfl, Lib.hid ?_, by simp, (Keep.refl w2).alloc _⟩
        intro j hj
        have hj' : j < m := by simpa using hj
        refine ⟨(World.cell?_alloc_new w2 _ _ j).trans ?_, World.frozen?_alloc_at _ _ _ _ rfl⟩
        rw [made_at _ _ hj']
        simp [List.getD_eq_getElem?_getD, hj']
      case round =>
        obtain ⟨k, hk, rfl, HW, hlr, hK⟩ := hrel
        clear hmk2
        by_cases hlt : k < m
        · have HP := Lib.hid (part_set (serN rs x s t f m) k (by rw [serN_len]; exact hlt))
          rw [serN_len, serN_at hlt] at HP
          have hl : ((serN rs x s t f m).take k ++ List.replicate (m - k) 0).length = m := by simp [serN_len]; omega
          obtain ⟨u0, u1⟩ := HW.out k (by rw [hl]; exact hlt)
          have HW2 := Lib.hid (HW.out.set (by rw [hl]; exact hlt) (vN rs s (f + (k : Int)) t x))
          rw [HP.out] at HW2
          have HC2 := Lib.hid (val_any (rs.take x) s (f + (k : Int)) t x p wr (HC.out.keep hK))
          rw [HT.out] at HC2
          generalize ((serN rs x s t f m).take k ++ List.replicate (m - k) 0).getD k 0 = y at u0
          clear hl HP
          go_wp2_with fail
          refine HC2.out.mono ?_
          rintro e w' ⟨rfl, rfl⟩
          go_wp2
          go_roundw
          case rel => exact ⟨k + 1, by omega, by go_num, HW2, by simpa [World.setCell] using hlr, hK.setCell (Nat.le_refl _) _⟩
          case measure => simp [intOf]; omega
        · have HW2 : Hid (Wr wr w2.heap.size (serN rs x s t f m)) := Lib.hid (by have h1 := HW.out; rw [List.take_of_length_le (by rw [serN_len]; omega), show m - k = 0 by omega] at h1; simpa using h1)
          go_wp2
          go_ret2
          refine ⟨some ⟨w2.heap.size, 0, none⟩, m, ?_, .inr ⟨_, rfl, hz, hlr, by rw [HO.out.2]; exact HW2.out⟩, k12.trans hK⟩
          rw [HO.out.1, HO.out.2, serN_len]
          rfl
    · have H := Lib.hid (ssOk_s (rs := rs) (v := v) hs)
      go_enter Tryz.func122, Tryz.ntmps122
      go_wp2_with (first | (go_at_call 134; refine (vv_impl a cap rs v _ h hm).mono ?_; rintro e w1 ⟨he, k1⟩; rw [hv] at he; subst he) | (go_at_call 135; refine (sa_impl s t f n _).mono ?_; rintro e w' ⟨he, rfl⟩; rw [hs] at he; subst he))
      go_ret2
      exact ss_post_no H.out none 0 k1
  · have H := Lib.hid (ssOk_v (s := s) (t := t) (f := f) (n := n) hv)
    go_enter Tryz.func122, Tryz.ntmps122
    go_wp2_with (go_at_call 134; refine (vv_impl a cap rs v _ h hm).mono ?_; rintro e w1 ⟨he, k1⟩; rw [hv] at he; subst he)
    go_ret2
    exact ss_post_no H.out none 0 k1
set_option maxRecDepth 100000 in
set_option maxHeartbeats 2000000 in
theorem ss_spec (a : Option Addr) (cap : Nat) (rs : List R4) (v s t f n : Int) (w : World) (h : Rs w a rs) (hm : rs.length ≤ 4611686018427387904) (hc : rs.length ≤ cap) :
    Calls Tryz.prog 83 #[.slice a rs.length cap, .int .i64 v, .int .i64 s, .int .i64 t, .int .i64 f, .int .i64 n] w (SsPost rs v s t f n w) := by
  rcases Bool.eq_false_or_eq_true (stB rs) with h1 | h1
  case' inr =>
    have H : Hid (ssOk rs v s t f n = false) := Lib.hid (ssOk_v (by rw [vrB, h1]; rfl))
    have H1 := Lib.hid h1
    clear h1
    go_enter Tryz.func83, Tryz.ntmps83
    go_wp2_with (first | (go_at_call 64; refine (kl_spec _ _).mono ?_; rintro e w' ⟨rfl, rfl⟩) | (go_at_call 61; refine (sv_spec a cap rs _ h hm).mono ?_; rintro e w1 ⟨he, k1⟩; rw [H1.out] at he; subst he) | (go_at_call 65; refine (l6In_any _ _ _ _).mono ?_; rintro e w' ⟨rfl, rfl⟩))
    go_ret2
    exact ss_post_no H.out _ 0 (k1.alloc _)
  rcases Bool.eq_false_or_eq_true (inB v 0 (rs.length : Int)) with h2 | h2
  case' inr =>
    have H : Hid (ssOk rs v s t f n = false) := Lib.hid (ssOk_v (by rw [vrB, h1, h2]; rfl))
    have H1 := Lib.hid h1
    clear h1
    go_enter Tryz.func83, Tryz.ntmps83
    go_wp2_with (first | (go_at_call 64; refine (kl_spec _ _).mono ?_; rintro e w' ⟨rfl, rfl⟩) | (go_at_call 61; refine (sv_spec a cap rs _ h hm).mono ?_; rintro e w1 ⟨he, k1⟩; rw [H1.out] at he; subst he) | (go_at_call 65; refine (l6In_any _ _ _ _).mono ?_; rintro e w' ⟨rfl, rfl⟩))
    go_ret2
    exact ss_post_no H.out _ 0 (k1.alloc _)
  rcases Bool.eq_false_or_eq_true (kOk t) with h3 | h3
  case' inr =>
    have H : Hid (ssOk rs v s t f n = false) := Lib.hid (ssOk_s (by rw [saB, h3]; rfl))
    have H1 := Lib.hid h1
    clear h1
    go_enter Tryz.func83, Tryz.ntmps83
    go_wp2_with (first | (go_at_call 64; refine (kl_spec _ _).mono ?_; rintro e w' ⟨rfl, rfl⟩) | (go_at_call 61; refine (sv_spec a cap rs _ h hm).mono ?_; rintro e w1 ⟨he, k1⟩; rw [H1.out] at he; subst he) | (go_at_call 65; refine (l6In_any _ _ _ _).mono ?_; rintro e w' ⟨rfl, rfl⟩))
    go_ret2
    exact ss_post_no H.out _ 0 (k1.alloc _)
  rcases Bool.eq_false_or_eq_true (inB s 1 9) with h4 | h4
  case' inr =>
    have H : Hid (ssOk rs v s t f n = false) := Lib.hid (ssOk_s (by rw [saB, h3, h4]; rfl))
    have H1 := Lib.hid h1
    clear h1
    go_enter Tryz.func83, Tryz.ntmps83
    go_wp2_with (first | (go_at_call 64; refine (kl_spec _ _).mono ?_; rintro e w' ⟨rfl, rfl⟩) | (go_at_call 61; refine (sv_spec a cap rs _ h hm).mono ?_; rintro e w1 ⟨he, k1⟩; rw [H1.out] at he; subst he) | (go_at_call 65; refine (l6In_any _ _ _ _).mono ?_; rintro e w' ⟨rfl, rfl⟩))
    go_ret2
    exact ss_post_no H.out _ 0 (k1.alloc _)
  rcases Bool.eq_false_or_eq_true (inB f 0 999) with h5 | h5
  case' inr =>
    have H : Hid (ssOk rs v s t f n = false) := Lib.hid (ssOk_s (by rw [saB, h3, h4, h5]; rfl))
    have H1 := Lib.hid h1
    clear h1
    go_enter Tryz.func83, Tryz.ntmps83
    go_wp2_with (first | (go_at_call 64; refine (kl_spec _ _).mono ?_; rintro e w' ⟨rfl, rfl⟩) | (go_at_call 61; refine (sv_spec a cap rs _ h hm).mono ?_; rintro e w1 ⟨he, k1⟩; rw [H1.out] at he; subst he) | (go_at_call 65; refine (l6In_any _ _ _ _).mono ?_; rintro e w' ⟨rfl, rfl⟩))
    go_ret2
    exact ss_post_no H.out _ 0 (k1.alloc _)
  rcases Bool.eq_false_or_eq_true (inB n 1 12) with h6 | h6
  case' inr =>
    have H : Hid (ssOk rs v s t f n = false) := Lib.hid (ssOk_s (by rw [saB, h3, h4, h5, h6]; rfl))
    have H1 := Lib.hid h1
    clear h1
    go_enter Tryz.func83, Tryz.ntmps83
    go_wp2_with (first | (go_at_call 64; refine (kl_spec _ _).mono ?_; rintro e w' ⟨rfl, rfl⟩) | (go_at_call 61; refine (sv_spec a cap rs _ h hm).mono ?_; rintro e w1 ⟨he, k1⟩; rw [H1.out] at he; subst he) | (go_at_call 65; refine (l6In_any _ _ _ _).mono ?_; rintro e w' ⟨rfl, rfl⟩))
    go_ret2
    exact ss_post_no H.out _ 0 (k1.alloc _)
  have hvr : vrB rs v = true := by rw [vrB, h1, h2]; rfl
  have hsa : saB s t f n = true := by rw [saB, h3, h4, h5, h6]; rfl
  have hok : ssOk rs v s t f n = true := by rw [ssOk, hvr, hsa]; rfl
  obtain ⟨_, hl, x, rfl, hx⟩ := vrB_facts hvr
  obtain ⟨_, _, ⟨f0, f1⟩, m, rfl, m0, m1⟩ := saB_facts hsa
  have HO := Lib.hid (And.intro hok (ssL_yes hok))
  have H1 := Lib.hid h1
  have HL := Lib.hid (len_take hx)
  have HT := Lib.hid (fun s d t => vN_take rs s d t x hx x (Nat.le_refl _))
  obtain ⟨i0, hi, hz0, hz1, hz2⟩ := info_parts infoIntS
  clear h1 hvr hsa hok
  have q0 : (0 : Int) ≤ (x : Int) := by omega
  have q1 : (x : Int) ≤ (cap : Int) := by omega
  go_enter Tryz.func83, Tryz.ntmps83
  go_wp2_with (first | (go_at_call 64; refine (kl_spec _ _).mono ?_; rintro e w' ⟨rfl, rfl⟩) | (go_at_call 61; refine (sv_spec a cap rs _ h hm).mono ?_; rintro e w1 ⟨he, k1⟩; rw [H1.out] at he; subst he) | (go_at_call 65; refine (l6In_any _ _ _ _).mono ?_; rintro e w' ⟨rfl, rfl⟩))
  have hz := k1.size
  go_loopw [17, 18] (fun u i wr => ∃ (k g c : Nat), k ≤ m ∧ i = .int .i64 k ∧ u = .slice (some ⟨g, 0, none⟩) k c ∧ Hid (wr.ownsRow w1.heap.size 3 1 (.slice (some ⟨g, 0, none⟩) k c) k ((serN rs x s t f k).map (Value.int .i64))) ∧ Keep w1 wr) (fun _ i _ => m - (intOf i).toNat)
  case atStart => exact ⟨0, w1.heap.size, 0, by omega, rfl, rfl, Lib.hid (World.ownsRow_made w1 #[] 0 (Nat.le_refl _) (by unfold maxLen; omega) rfl), (Keep.refl w1).alloc _⟩
  case round =>
    obtain ⟨k, g, c, hk, rfl, rfl, HW, hK⟩ := hrel
    have hsz := hK.size
    by_cases hlt : k < m
    · have HC2 := Lib.hid (l11_any a cap (rs.take x) s (f + (k : Int)) t wr (((h.keep k1).keep hK).take x) (by rw [HL.out]; omega))
      rw [HL.out, HT.out] at HC2
      have HS := Lib.hid (serN_snoc rs x s t f k)
      generalize vN rs s (f + (k : Int)) t x = y at HC2 HS
      go_wp2_with fail
      refine HC2.out.mono ?_
      rintro e w' ⟨rfl, rfl⟩
      have hown := HW.out
      go_wp2_with (at_builtin; refine wpList_append_own _ rfl _ _ 64 rfl w1.heap.size 3 i0 (.int .i64 0) 1 8 Tryz.underlying64 hi hz0 hz1 hz2 rfl (by decide) _ _ _ rfl (hown.alloc _) ⟨wr.heap.size, 0, none⟩ 1 1 [.int .i64 y] rfl rfl ?c1a ?c2a ?c3a ?c4a ?c5a ?_)
      case c1a =>
        intro j u hj
        match j, hj with
        | 0, hj => simp at hj; subst hj; simp [Addr.add]
      case c2a => first | rfl | (intro u hu; simp at hu; subst hu; rfl)
      case c3a => unfold maxLen; omega
      case c4a => omega
      case c5a => first | omega | (simp; omega)
      intro v' w5 hown' hgrow hnil
      obtain ⟨g', c', rfl, hbg, hlg⟩ := hown'.form (by omega)
      have HN : Hid (w5.ownsRow w1.heap.size 3 1 (.slice (some ⟨g', 0, none⟩) (k + 1) c') (k + 1) ((serN rs x s t f (k + 1)).map (Value.int .i64))) := Lib.hid (by rw [HS.out]; simpa using hown')
      have HK2 := Lib.hid ((Below.grown (hK.alloc (.cells #[.int .i64 y] 3)) hgrow (hK.alloc (.cells #[.int .i64 y] 3)).size (fun q hq => (hown.lt q hq).1)) : Keep w1 w5)
      clear hown' hgrow hnil hown
      go_wp2
      go_roundw
      case rel => exact ⟨k + 1, g', c', by omega, by go_num, rfl, HN, HK2.out⟩
      case measure => simp [intOf]; omega
    · obtain rfl : k = m := by omega
      have HF : Hid (Wr wr g (serN rs x s t f k) ∧ w1.heap.size ≤ g ∧ g < wr.heap.size) := Lib.hid (by
        refine ⟨fun j hj => ?_, (World.ownsRow.lt HW.out g rfl).1, (World.ownsRow.lt HW.out g rfl).2⟩
        rw [serN_len] at hj
        refine ⟨?_, World.ownsRow.frozenAt HW.out j⟩
        rw [World.ownsRow.cellAt HW.out j (by omega)]
        simp [serN_len, hj, List.getD_eq_getElem?_getD])
      go_wp2
      go_ret2
      refine ⟨some ⟨g, 0, none⟩, c, ?_, .inr ⟨_, rfl, by have := HF.out.2.1; omega, HF.out.2.2, by rw [HO.out.2]; exact HF.out.1⟩, k1.trans hK⟩
      rw [HO.out.1, HO.out.2, serN_len]
      rfl
end Go.Proofs.YtnemdnidlbekbaaGreatDoor
