/- DiffOf of the model. -/
import Derived.Test.YtamdfdbhkmgflaaKn
import Derived.Test.YtamdfdbhkmgflaaKj
namespace Go.Proofs.Ytamdfdbhkmgflaa
open Go.RowKit
set_option linter.unusedVariables false

theorem quietK {P : Program} {f : FuncId} {args : Array Value} {w : World} {n : Nat} {v : Value}
    (h : Calls P f args (w.drewN n) fun e w' => e = .returned v ∧ w.drewN n = w') : Calls P f args (w.drewN n) fun e w'' => e = .returned v ∧ ∃ m, w'' = w.drewN m :=
  h.mono fun _ _ ⟨he, hm⟩ => ⟨he, n, hm.symm⟩
set_option maxRecDepth 100000 in
set_option maxHeartbeats 8000000 in
theorem df_spec (a : Option Addr) (cap : Nat) (rs : List R4) (A B : Int) (w : World) (h : Rs w a rs) (hm : rs.length ≤ 1048576) (hc : rs.length ≤ cap) :
    Calls Try.prog 8 #[.slice a rs.length cap, .int .i64 A, .int .i64 B] w (DfPost rs A B w) := by
  have HSV : Hid (∀ W, Rs W a rs → Calls Try.prog 10 #[.slice a rs.length cap] W fun e w' => e = .returned (.bool (stB rs)) ∧ Keep W w') := Lib.hid (fun W hW => sv_spec a cap rs W hW (by omega))
  have HIn : Hid (∀ (n : Int) (W : World), Calls Try.prog 28 #[.int .i64 n, .int .i64 0, .int .i64 (rs.length : Int)] W fun e w' => e = .returned (.bool (inB n 0 rs.length)) ∧ W = w') := Lib.hid (fun n W => l6In_any n 0 rs.length W)
  have HD : Hid (dfOk rs A B = ((stB rs && inB A 0 rs.length) && (stB rs && inB B 0 rs.length))) := Lib.hid rfl
  have hw0 : Keep w (w.alloc (.cells #[] 33)) := (Keep.refl w).alloc _
  rcases Bool.eq_false_or_eq_true (stB rs) with hs | hs
  case' inr =>
    have HN : Hid (dfL rs A B = []) := Lib.hid (dfL_no (by rw [HD.out, hs]; rfl))
    have H1 := Lib.hid (HSV.out _ (h.keep hw0))
    rw [hs] at H1
    clear hs HSV HIn HD
    go_enter Try.func8, Try.ntmps8
    go_wp2_with (go_at_call 10; refine H1.out.mono ?_; rintro e w1 ⟨rfl, k1⟩)
    go_ret
    exact ⟨_, 0, by rw [HN.out]; rfl, .inl HN.out, hw0.trans k1⟩
  rcases Bool.eq_false_or_eq_true (inB A 0 rs.length) with hA | hA
  case' inr =>
    have HN : Hid (dfL rs A B = []) := Lib.hid (dfL_no (by rw [HD.out, hs, hA]; rfl))
    have H1 := Lib.hid (HSV.out _ (h.keep hw0))
    rw [hs] at H1
    have H2 := Lib.hid (HIn.out A)
    rw [hA] at H2
    clear hs hA HSV HIn HD
    go_enter Try.func8, Try.ntmps8
    go_wp2_with (first | (go_at_call 10; refine H1.out.mono ?_; rintro e w1 ⟨rfl, k1⟩) | (go_at_call 28; refine (H2.out _).mono ?_; rintro e w2 ⟨rfl, rfl⟩))
    go_ret
    exact ⟨_, 0, by rw [HN.out]; rfl, .inl HN.out, hw0.trans k1⟩
  rcases Bool.eq_false_or_eq_true (inB B 0 rs.length) with hB | hB
  case' inr =>
    have HN : Hid (dfL rs A B = []) := Lib.hid (dfL_no (by rw [HD.out, hs, hA, hB]; rfl))
    have H1 := Lib.hid (HSV.out _ (h.keep hw0))
    rw [hs] at H1
    have H2 := Lib.hid (HIn.out A)
    rw [hA] at H2
    have H3 := Lib.hid (HIn.out B)
    rw [hB] at H3
    clear hs hA hB HSV HIn HD
    go_enter Try.func8, Try.ntmps8
    go_wp2_with fail
    refine H1.out.mono ?_
    rintro e w1 ⟨rfl, k1⟩
    go_wp2_with fail
    refine (H2.out _).mono ?_
    rintro e w2 ⟨rfl, rfl⟩
    go_wp2_with fail
    refine (H3.out _).mono ?_
    rintro e w2 ⟨rfl, rfl⟩
    go_wp2
    go_ret
    exact ⟨_, 0, by rw [HN.out]; rfl, .inl HN.out, hw0.trans k1⟩
  have HO : dfOk rs A B = true := by rw [HD.out, hs, hA, hB]; rfl
  have H1 := Lib.hid (HSV.out _ (h.keep hw0))
  rw [hs] at H1
  have H2 := Lib.hid (HIn.out A)
  rw [hA] at H2
  have H3 := Lib.hid (HIn.out B)
  rw [hB] at H3
  have HL : Hid (dfL rs A B = dfN rs A.toNat B.toNat rs.length) := Lib.hid (dfL_yes HO)
  have HO2 := HO
  simp only [dfOk, Bool.and_eq_true] at HO2
  obtain ⟨_, hl, m1, hm1, hml1⟩ := vrB_facts HO2.1
  obtain ⟨_, _, m2, hm2, hml2⟩ := vrB_facts HO2.2
  subst hm1; subst hm2
  simp only [Int.toNat_natCast] at HL
  clear hs hA hB HSV HIn HD HO HO2
  go_enter Try.func8, Try.ntmps8
  go_wp2_with fail
  refine H1.out.mono ?_
  rintro e w1 ⟨rfl, k1⟩
  go_wp2_with fail
  refine (H2.out _).mono ?_
  rintro e w2 ⟨rfl, rfl⟩
  go_wp2_with fail
  refine (H3.out _).mono ?_
  rintro e w2 ⟨rfl, rfl⟩
  go_wp2_with fail
  go_loopw [7, 8] (fun u i wr => ∃ (k n g c : Nat), k ≤ rs.length ∧ i = .int .i64 k ∧ u = .slice (some ⟨g, 0, none⟩) n c ∧ Hid (n = (dfN rs m1 m2 k).length) ∧ n ≤ c ∧ Hid (WrK wr g (dfN rs m1 m2 k)) ∧ w.heap.size ≤ g ∧ Keep w wr) (fun _ i _ => rs.length - (intOf i).toNat)
  case atStart => exact ⟨0, 0, w.heap.size, 0, by omega, rfl, rfl, Lib.hid rfl, by omega, Lib.hid (fun j hj => by simp [dfN] at hj), by omega, hw0.trans k1⟩
  case round =>
    obtain ⟨k, n, g, c, hk, rfl, rfl, HLN, hnc, HW, hg, hK⟩ := hrel
    by_cases hlt : k < rs.length
    · obtain ⟨b, off, rfl, hb, ⟨c0, c1, c2, c3⟩⟩ := (h.keep hK).at_ hlt
      have HS : Hid (dfN rs m1 m2 (k + 1) = if vN rs (rS (rs.getD k r0)) (rD (rs.getD k r0)) (rK (rs.getD k r0)) m1 != vN rs (rS (rs.getD k r0)) (rD (rs.getD k r0)) (rK (rs.getD k r0)) m2 then kput (dfN rs m1 m2 k) (rS (rs.getD k r0), rD (rs.getD k r0), rK (rs.getD k r0)) else dfN rs m1 m2 k) := Lib.hid rfl
      have hln := dfN_len rs m1 m2 k
      generalize rS (rs.getD k r0) = x0 at *
      generalize rD (rs.getD k r0) = x1 at *
      generalize rK (rs.getD k r0) = x2 at *
      generalize rV (rs.getD k r0) = x3 at *
      have q1 : (0 : Int) ≤ (k : Int) := by omega
      have q2 : (k : Int) < (rs.length : Int) := by omega
      go_wp2_with fail
      refine (key_spec x0 x1 x2 x3 _).mono ?_
      rintro e w3 ⟨rfl, k3⟩
      go_wp2_with fail
      have HR3 := ((h.keep hK).keep k3).alloc (.cells #[.int .i64 x0, .int .i64 x1, .int .i64 x2] 33)
      have HK4 : Keep w (w3.alloc (.cells #[.int .i64 x0, .int .i64 x1, .int .i64 x2] 33)) := (hK.trans k3).alloc _
      have HW4 := Lib.hid (HW.out.keep (k3.alloc (.cells #[.int .i64 x0, .int .i64 x1, .int .i64 x2] 33)))
      have y0 : (w3.alloc (.cells #[.int .i64 x0, .int .i64 x1, .int .i64 x2] 33)).cell? ⟨w3.heap.size, 0, none⟩ = some (.int .i64 x0) := cell_newAt rfl rfl
      have y1 : (w3.alloc (.cells #[.int .i64 x0, .int .i64 x1, .int .i64 x2] 33)).cell? ⟨w3.heap.size, 1, none⟩ = some (.int .i64 x1) := cell_newAt rfl rfl
      have y2 : (w3.alloc (.cells #[.int .i64 x0, .int .i64 x1, .int .i64 x2] 33)).cell? ⟨w3.heap.size, 2, none⟩ = some (.int .i64 x2) := cell_newAt rfl rfl
      generalize hbk : w3.heap.size = bk at y0 y1 y2
      generalize w3.alloc (.cells #[.int .i64 x0, .int .i64 x1, .int .i64 x2] 33) = w4 at *
      have HV : Hid (∀ (j : Nat), j ≤ rs.length → ∀ m, Calls Try.prog 30 #[.slice (some ⟨b, off, none⟩) j cap, .int .i64 x0, .int .i64 x1, .int .i64 x2] (w4.drewN m) fun e w' => e = .returned (.int .i64 (vN rs x0 x1 x2 j)) ∧ w4.drewN m = w') := Lib.hid (fun j hj m => by
        have h1 := l11_any _ cap (rs.take j) x0 x1 x2 (w4.drewN m) ((HR3.keep ((Keep.refl w4).drewN m)).take j) (by rw [List.length_take]; omega)
        rw [List.length_take, Nat.min_eq_left hj, vN_take rs x0 x1 x2 j hj j (Nat.le_refl _)] at h1
        exact h1)
      have HV1 := Lib.hid (HV.out m1 hml1)
      have HV2 := Lib.hid (HV.out m2 hml2)
      generalize vN rs x0 x1 x2 m1 = v1 at HV1 HS
      generalize vN rs x0 x1 x2 m2 = v2 at HV2 HS
      have r1 : (0 : Int) ≤ (m1 : Int) := by omega
      have r2 : (m1 : Int) ≤ (cap : Int) := by omega
      have r3 : (0 : Int) ≤ (m2 : Int) := by omega
      have r4 : (m2 : Int) ≤ (cap : Int) := by omega
      have hcase : (v1 != v2) = true ∨ (v1 != v2) = false := by cases v1 != v2 <;> simp
      clear HV c0 c1 c2 c3 hb H1 H2 H3 k3 hbk
      rcases hcase with hv | hv
      · have HS2 : Hid (kput (dfN rs m1 m2 k) (x0, x1, x2) = dfN rs m1 m2 (k + 1)) := Lib.hid (by rw [HS.out, if_pos hv])
        have hln2 := dfN_len rs m1 m2 (k + 1)
        go_quiet ((go_at_call 30; first | (with_reducible exact quietK (HV1.out _)) | (with_reducible exact quietK (HV2.out _))))
        have HW5 := Lib.hid (HW4.out.drewN nq)
        have HK5 := HK4.drewN nq
        have z0 := ((Keep.refl w4).drewN nq).cell y0
        have z1 := ((Keep.refl w4).drewN nq).cell y1
        have z2 := ((Keep.refl w4).drewN nq).cell y2
        generalize w4.drewN nq = w5 at *
        have HPut := Lib.hid (put_any g c (dfN rs m1 m2 k) x0 x1 x2 w5 HW5.out (by omega) (by rw [← HLN.out]; exact hnc))
        rw [← HLN.out] at HPut
        clear y0 y1 y2 HS
        go_wp2_with fail
        refine HPut.out.mono ?_
        rintro e w6 ⟨g', c', rfl, hc', hW6, hg', k6⟩
        rw [HS2.out] at hc' hW6
        have hs5 := HK5.size
        go_wp2
        go_roundw
        case rel => exact ⟨k + 1, _, g', c', by omega, by go_num, by rw [HS2.out], Lib.hid rfl, hc', Lib.hid hW6, by rcases hg' with rfl | h9 <;> omega, HK5.trans k6⟩
        case measure => simp [intOf]; omega
      · have HS2 : Hid (dfN rs m1 m2 (k + 1) = dfN rs m1 m2 k) := Lib.hid (by rw [HS.out, if_neg (by rw [hv]; simp)])
        go_quiet ((go_at_call 30; first | (with_reducible exact quietK (HV1.out _)) | (with_reducible exact quietK (HV2.out _))))
        have HW5 := Lib.hid (HW4.out.drewN nq)
        have HK5 := HK4.drewN nq
        clear y0 y1 y2 HS
        go_wp2
        go_roundw
        case rel => exact ⟨k + 1, n, g, c, by omega, by go_num, rfl, Lib.hid (by rw [HS2.out]; exact HLN.out), hnc, Lib.hid (by rw [HS2.out]; exact HW5.out), hg, HK5⟩
        case measure => simp [intOf]; omega
    · obtain rfl : k = rs.length := by omega
      go_wp2
      go_ret
      refine ⟨some ⟨g, 0, none⟩, c, by rw [HL.out, ← HLN.out]; rfl, ?_, hK⟩
      rw [HL.out]
      by_cases h0 : dfN rs m1 m2 rs.length = []
      · exact .inl h0
      · exact .inr ⟨g, rfl, hg, World.block_lt_of_cell? wr _ (HW.out 0 (List.length_pos_iff.2 h0)).1.s, HW.out⟩
end Go.Proofs.Ytamdfdbhkmgflaa
