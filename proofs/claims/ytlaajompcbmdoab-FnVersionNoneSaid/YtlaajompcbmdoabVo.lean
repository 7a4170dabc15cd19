/- VersionOf: the program and the model answer 'voV'. -/
import Derived.Test.YtlaajompcbmdoabVw
import Derived.Deep.LoopGhost
import Derived.LoopTactic
import Derived.Deep.QuietTactic
import Derived.BigQuiet
namespace Go.Proofs.Ytlaajompcbmdoab
open Go.RowKit
set_option linter.unusedVariables false

theorem voV_none {rs : List R4} {v s d t : Int} (h : svV rs v s d t = -9999) : voV rs v s d t = -1 := by simp [voV, h]
theorem voV_some {rs : List R4} {m : Nat} {s d t : Int} (h : svV rs m s d t ≠ -9999) : voV rs m s d t = (bkN rs s d t m m : Int) := by simp [voV, h]
theorem quietV {P : Program} {f : FuncId} {args : Array Value} {w : World} {n : Nat} {v : Value}
    (h : Calls P f args (w.drewN n) fun e w' => e = .returned v ∧ w.drewN n = w') : Calls P f args (w.drewN n) fun e w'' => e = .returned v ∧ ∃ m, w'' = w.drewN m :=
  h.mono fun _ _ ⟨he, hm⟩ => ⟨he, n, hm.symm⟩
theorem quietQ {P : Program} {f : FuncId} {args : Array Value} {w : World} {n q : Nat} {v : Value}
    (h : Calls P f args (w.drewN (q + n)) fun e w' => e = .returned v ∧ w.drewN (q + n) = w') : Calls P f args (w.drewN (q + n)) fun e w'' => e = .returned v ∧ ∃ m, w'' = w.drewN (q + m) :=
  h.mono fun _ _ ⟨he, hm⟩ => ⟨he, n, hm.symm⟩
set_option maxRecDepth 100000 in
set_option maxHeartbeats 4000000 in
theorem vo_impl (a : Option Addr) (cap : Nat) (rs : List R4) (v s d t : Int) (w : World) (h : Rs w a rs) (hm : rs.length ≤ 1048576) (hc : rs.length ≤ cap) :
    Calls Try.prog 32 #[.slice a rs.length cap, .int .i64 v, .agg #[.int .i64 s, .int .i64 d, .int .i64 t]] w fun e w' => e = .returned (.int .i64 (voV rs v s d t)) ∧ Keep w w' := by
  have HA := Lib.hid (fun W => as_any a rs.length cap v W)
  have HV := Lib.hid (fun v W (k : Keep w W) => val2_any a cap rs v s d t W (h.keep k) hm hc)
  by_cases h9 : svV rs v s d t = -9999
  · have HO := Lib.hid (voV_none h9)
    have HV1 := Lib.hid (HV.out v)
    rw [h9] at HV1
    clear HV h9
    go_enter Try.func32, Try.ntmps32
    go_wp2_with fail
    refine (HA.out _).mono ?_
    rintro e w1 ⟨rfl, k1⟩
    have K1 : Keep w w1 := ((Keep.refl w).alloc _).trans k1
    have b0 := k1.cell (b := w.heap.size) (o := 0) (v := .int .i64 s) (by go_simp)
    have b1 := k1.cell (b := w.heap.size) (o := 1) (v := .int .i64 d) (by go_simp)
    have b2 := k1.cell (b := w.heap.size) (o := 2) (v := .int .i64 t) (by go_simp)
    have hlt : w.heap.size < w1.heap.size := World.block_lt_of_cell? w1 _ b0
    go_wp2_with fail
    refine (HV1.out _ (K1.alloc _)).mono ?_
    rintro e w2 ⟨rfl, k2⟩
    go_wp2
    go_ret
    exact ⟨retI HO.out.symm, (K1.alloc _).trans k2⟩
  obtain ⟨m, rfl, hml, hst, hvm⟩ := svV_some h9
  have HO := Lib.hid (voV_some h9)
  have HE := Lib.hid (fun (k : Nat) (hk : k ≤ rs.length) => (svV_yes (by simp [vrB, hst, inB, hk]) s d t : svV rs (k : Nat) s d t = vN rs s d t k))
  have HV1 := Lib.hid (HV.out m)
  rw [hvm] at HV1
  have hne : (vN rs s d t m == -9999) = false := beq_eq_false_iff_ne.2 (by rw [← hvm]; exact h9)
  have H0 : Hid (vN rs s d t 0 = -9999) := Lib.hid rfl
  have HB := Lib.hid (fun j => show bkN rs s d t m (j + 1) = if vN rs s d t j = vN rs s d t m then bkN rs s d t m j else j + 1 from rfl)
  clear h9 hvm hst
  go_enter Try.func32, Try.ntmps32
  go_wp2_with fail
  refine (HA.out _).mono ?_
  rintro e w1 ⟨rfl, k1⟩
  have K1 : Keep w w1 := ((Keep.refl w).alloc _).trans k1
  have b0 := k1.cell (b := w.heap.size) (o := 0) (v := .int .i64 s) (by go_simp)
  have b1 := k1.cell (b := w.heap.size) (o := 1) (v := .int .i64 d) (by go_simp)
  have b2 := k1.cell (b := w.heap.size) (o := 2) (v := .int .i64 t) (by go_simp)
  have hlt : w.heap.size < w1.heap.size := World.block_lt_of_cell? w1 _ b0
  go_wp2_with fail
  refine (HV1.out _ (K1.alloc _)).mono ?_
  rintro e w2 ⟨rfl, k2⟩
  have a0 := k2.cell (b := w1.heap.size) (o := 0) (v := .slice a rs.length cap) (by go_simp)
  have a1 := k2.cell (b := w1.heap.size) (o := 1) (v := .int .i64 (m : Int)) (by go_simp)
  have f1 := k2.fresh 1
  have c0 := ((Keep.refl w1).alloc _).trans k2 |>.cell b0
  have c1 := ((Keep.refl w1).alloc _).trans k2 |>.cell b1
  have c2 := ((Keep.refl w1).alloc _).trans k2 |>.cell b2
  have K2 : Keep w w2 := (K1.alloc _).trans k2
  have HKW := Lib.hid K2
  have hwW : w.heap.size ≤ w1.heap.size := Nat.le_of_lt hlt
  have hne3 : w1.heap.size ≠ w.heap.size := by omega
  have HBE : Hid (bkN rs s d t m (m + 1) = bkN rs s d t m m) := Lib.hid (by rw [HB.out, if_pos rfl])
  clear k1 k2 K1 K2 b0 b1 b2 HV1 HA
  obtain ⟨X, hX⟩ : ∃ X, vN rs s d t m = X := ⟨_, rfl⟩
  rw [hX] at hne ⊢
  have HX := Lib.hid hX
  clear hX
  generalize w1.heap.size = G at *
  go_wp2_with fail
  go_loopg [] m (fun gk wr => ∃ j : Nat, j ≤ gk ∧ j ≤ m ∧ Hid (bkN rs s d t m (j + 1) = bkN rs s d t m m) ∧ wr.cell? ⟨G, 0, none⟩ = some (.slice a rs.length cap) ∧ wr.cell? ⟨G, 1, none⟩ = some (.int .i64 (j : Int)) ∧ wr.frozen? ⟨G, 1, none⟩ = false ∧
    wr.cell? ⟨w.heap.size, 0, none⟩ = some (.int .i64 s) ∧ wr.cell? ⟨w.heap.size, 1, none⟩ = some (.int .i64 d) ∧ wr.cell? ⟨w.heap.size, 2, none⟩ = some (.int .i64 t) ∧ Hid (Keep w wr))
  case atStart => exact ⟨m, Nat.le_refl _, Nat.le_refl _, HBE, a0, a1, f1, c0, c1, c2, HKW⟩
  case round =>
    clear a0 a1 f1 c0 c1 c2 HKW HBE
    obtain ⟨j, hjg, hjm, HBj, a0, a1, f1, c0, c1, c2, HK⟩ := hrel
    have HV1 := Lib.hid (HV.out (j : Int))
    rw [HE.out j (by omega)] at HV1
    by_cases hj : vN rs s d t j = X
    · rw [hj] at HV1
      have hj0 : 0 < j := by
        rcases Nat.eq_zero_or_pos j with h0 | h0
        · exfalso
          rw [h0, H0.out] at hj
          rw [← hj] at hne
          simp at hne
        · exact h0
      obtain ⟨i, rfl⟩ : ∃ i, j = i + 1 := ⟨j - 1, by omega⟩
      have HB2 : Hid (bkN rs s d t m (i + 1) = bkN rs s d t m m) := Lib.hid (by rw [← HBj.out, HB.out (i + 1), if_pos (by rw [hj, HX.out])])
      have ew : IntKind.i64.wrap (((i + 1 : Nat) : Int) - 1) = (i : Int) := by rw [show ((i + 1 : Nat) : Int) - 1 = (i : Int) by omega]; exact IntWalk.i64_in _ ⟨by omega, by omega⟩
      generalize ((i + 1 : Nat) : Int) = jj at *
      clear hj HBj
      go_wp2_with fail
      refine (HV1.out _ HK.out).mono ?_
      rintro e w3 ⟨rfl, k3⟩
      have A0 := k3.cell a0
      have A1 := k3.cell a1
      have F1 := k3.still a1 f1
      have C0 := k3.cell c0
      have C1 := k3.cell c1
      have C2 := k3.cell c2
      have HK3 := Lib.hid (HK.out.trans k3)
      clear a0 a1 f1 c0 c1 c2 k3 HV1
      go_wp2
      go_roundg i
      case measure => omega
      case rel =>
        refine ⟨i, Nat.le_refl _, by omega, HB2, ?_, ?_, ?_, ?_, ?_, ?_, Lib.hid (HK3.out.setCell hwW _)⟩
        · rw [World.cell?_setCell_other _ _ _ _ (by simp)]; exact A0
        · exact World.cell?_setCell_same _ _ _ A1
        · rw [World.frozen?_setCell]; exact F1
        · rw [World.cell?_setCell_other _ _ _ _ (by simp <;> omega)]; exact C0
        · rw [World.cell?_setCell_other _ _ _ _ (by simp <;> omega)]; exact C1
        · rw [World.cell?_setCell_other _ _ _ _ (by simp <;> omega)]; exact C2
    · have hjX : (vN rs s d t j == X) = false := beq_eq_false_iff_ne.2 hj
      have HR : Hid ((j : Int) + 1 = (bkN rs s d t m m : Int)) := Lib.hid (by rw [← HBj.out, HB.out, if_neg (by rw [HX.out]; exact hj)]; rfl)
      generalize vN rs s d t j = y at *
      clear hj HBj
      go_wp2_with fail
      refine (HV1.out _ HK.out).mono ?_
      rintro e w3 ⟨rfl, k3⟩
      have A1 := k3.cell a1
      have HK3 := Lib.hid (HK.out.trans k3)
      clear a0 a1 f1 c0 c1 c2 k3 HV1
      go_wp2
      go_ret
      exact ⟨retI (by rw [HO.out, ← HR.out]), HK3.out⟩
set_option maxRecDepth 100000 in
set_option maxHeartbeats 4000000 in
theorem vo_spec (a : Option Addr) (cap : Nat) (rs : List R4) (v s d t : Int) (w : World) (h : Rs w a rs) (hm : rs.length ≤ 1048576) (hc : rs.length ≤ cap) :
    Calls Try.prog 31 #[.slice a rs.length cap, .int .i64 v, .agg #[.int .i64 s, .int .i64 d, .int .i64 t]] w fun e w' => e = .returned (.int .i64 (voV rs v s d t)) ∧ Keep w w' := by
  have HSV := Lib.hid (fun W (k : Keep w W) => sv_spec a cap rs W (h.keep k) (by omega))
  have kA : Keep w (w.alloc (.cells #[.int .i64 s, .int .i64 d, .int .i64 t] 30)) := (Keep.refl w).alloc _
  rcases vrB_cases rs v with ⟨hv, h1⟩ | ⟨hv, h1, h2⟩ | ⟨hv, h1, h2⟩
  · have HO := Lib.hid (voV_none (svV_no hv s d t))
    rw [h1] at HSV
    clear hv
    go_enter Try.func31, Try.ntmps31
    go_wp2_with fail
    refine (HSV.out _ kA).mono ?_
    rintro e w1 ⟨rfl, k1⟩
    go_wp2
    go_ret
    exact ⟨retI HO.out.symm, kA.trans k1⟩
  · have HO := Lib.hid (voV_none (svV_no hv s d t))
    rw [h1] at HSV
    clear hv
    go_enter Try.func31, Try.ntmps31
    go_wp2_with fail
    refine (HSV.out _ kA).mono ?_
    rintro e w1 ⟨rfl, k1⟩
    go_wp2_with (go_at_call 58; refine (l6In_any _ _ _ _).mono ?_; rintro e w' ⟨rfl, rfl⟩)
    go_ret
    exact ⟨retI HO.out.symm, kA.trans k1⟩
  obtain ⟨_, hl, m, rfl, hml⟩ := vrB_facts hv
  have HL : Hid (∀ (W : World) (k : Keep w W) (n j : Nat), j ≤ rs.length → Calls Try.prog 59 #[.slice a j cap, .int .i64 s, .int .i64 d, .int .i64 t] (W.drewN n) fun e w' => e = .returned (.int .i64 (vN rs s d t j)) ∧ W.drewN n = w') := Lib.hid (fun W k n j hj => by
    have e1 := l11_any a cap (rs.take j) s d t (W.drewN n) (((h.keep k).drewN n).take j) (by rw [len_take hj]; omega)
    rw [len_take hj, vN_take rs s d t j hj j (Nat.le_refl _)] at e1
    exact e1)
  have HYv := Lib.hid (svV_yes hv s d t)
  have HO1 := Lib.hid (fun (h9 : vN rs s d t m = -9999) => voV_none ((svV_yes hv s d t).trans h9))
  have HO2 := Lib.hid (fun (h9 : vN rs s d t m ≠ -9999) => voV_some (fun e => h9 ((svV_yes hv s d t).symm.trans e)))
  have HB := Lib.hid (fun j => show bkN rs s d t m (j + 1) = if vN rs s d t j = vN rs s d t m then bkN rs s d t m j else j + 1 from rfl)
  rw [h1] at HSV
  clear hv HYv h1
  have q0 : (0 : Int) ≤ (m : Int) := by omega
  have q1 : (m : Int) ≤ (cap : Int) := by omega
  go_enter Try.func31, Try.ntmps31
  go_wp2_with fail
  refine (HSV.out _ kA).mono ?_
  rintro e w1 ⟨rfl, k1⟩
  have b0 := k1.cell (b := w.heap.size) (o := 0) (v := .int .i64 s) (by go_simp)
  have b1 := k1.cell (b := w.heap.size) (o := 1) (v := .int .i64 d) (by go_simp)
  have b2 := k1.cell (b := w.heap.size) (o := 2) (v := .int .i64 t) (by go_simp)
  have K1 : Keep w w1 := kA.trans k1
  have HL1 := Lib.hid (fun n j hj => HL.out w1 K1 n j hj)
  clear k1 kA HSV HL h
  go_wp2_with (go_at_call 58; refine (l6In_any _ _ _ _).mono ?_; rintro e w' ⟨rfl, rfl⟩)
  have HLm := Lib.hid (fun n => HL1.out n m hml)
  obtain ⟨X, hX⟩ : ∃ X, vN rs s d t m = X := ⟨_, rfl⟩
  rw [hX] at HLm HO1 HO2
  have HX := Lib.hid hX
  clear hX h2
  go_quiet ((go_at_call 59; exact quietV (HLm.out _)))
  by_cases h9 : X = -9999
  · replace HO1 := Lib.hid (HO1.out h9)
    subst h9
    clear HX HB HO2
    go_wp2
    go_ret
    exact ⟨retI HO1.out.symm, K1.drewN _⟩
  have HO := Lib.hid (HO2.out h9)
  have d9 : (X == -9999) = false := beq_eq_false_iff_ne.2 h9
  clear HO1 HO2 h9 HLm
  go_wp2_with fail
  go_loopw [1] (fun i wr => ∃ (j q : Nat), j ≤ m ∧ i = .int .i64 (j : Int) ∧ Hid (bkN rs s d t m j = bkN rs s d t m m) ∧ wr = w1.drewN q) (fun i _ => (intOf i).toNat)
  case atStart => exact ⟨m, nq, Nat.le_refl _, rfl, Lib.hid rfl, rfl⟩
  case round =>
    obtain ⟨j, q, hjm, rfl, HBj, rfl⟩ := hrel
    rcases Nat.eq_zero_or_pos j with h0 | h0
    · subst h0
      have HR : Hid ((0 : Int) = (bkN rs s d t m m : Int)) := Lib.hid (by rw [← HBj.out]; rfl)
      clear HBj
      go_wp2_with fail
      go_quiet (fail)
      go_wp2
      go_ret
      exact ⟨retI (by rw [HO.out, ← HR.out]; rfl), (K1.drewN _).drewN _⟩
    · obtain ⟨i, rfl⟩ : ∃ i, j = i + 1 := ⟨j - 1, by omega⟩
      have ew : IntKind.i64.wrap (((i + 1 : Nat) : Int) - 1) = (i : Int) := by rw [show ((i + 1 : Nat) : Int) - 1 = (i : Int) by omega]; exact IntWalk.i64_in _ ⟨by omega, by omega⟩
      have HLi := Lib.hid (fun n => HL1.out n i (by omega))
      have B0 := ((Keep.refl w1).drewN q).cell b0
      have B1 := ((Keep.refl w1).drewN q).cell b1
      have B2 := ((Keep.refl w1).drewN q).cell b2
      have HK : Hid (bkN rs s d t m (i + 1) = if vN rs s d t i = vN rs s d t m then bkN rs s d t m i else i + 1) := Lib.hid (HB.out i)
      have jp : decide ((0 : Int) < ((i + 1 : Nat) : Int)) = true := decide_eq_true (by omega)
      have i0 : (0 : Int) ≤ (i : Int) := by omega
      have ic : (i : Int) ≤ (cap : Int) := by omega
      have HJ : Hid (((i + 1 : Nat) : Int) = (i : Int) + 1) := Lib.hid rfl
      by_cases hi : vN rs s d t i = X
      · have HB2 : Hid (bkN rs s d t m i = bkN rs s d t m m) := Lib.hid (by rw [← HBj.out, HK.out, if_pos (by rw [hi, HX.out])])
        rw [hi] at HLi
        clear hi HBj HK
        generalize ((i + 1 : Nat) : Int) = jj at *
        go_wp2_with fail
        go_quiet ((go_at_call 59; exact quietQ (HLi.out _)))
        go_wp2
        go_roundw
        case rel => exact ⟨i, q + nq, by omega, by go_num, HB2, rfl⟩
        case measure => have := HJ.out; simp [intOf]; omega
      · have HR : Hid (((i + 1 : Nat) : Int) = (bkN rs s d t m m : Int)) := Lib.hid (by rw [← HBj.out, HK.out, if_neg (by rw [HX.out]; exact hi)])
        have hiX : (vN rs s d t i == X) = false := beq_eq_false_iff_ne.2 hi
        generalize vN rs s d t i = y at *
        clear hi HBj HK
        generalize ((i + 1 : Nat) : Int) = jj at *
        go_wp2_with fail
        go_quiet ((go_at_call 59; exact quietQ (HLi.out _)))
        go_wp2
        go_ret
        exact ⟨retI (by rw [HO.out, ← HR.out]), by first | exact K1.drewN _ | exact (K1.drewN _).drewN _⟩
end Go.Proofs.Ytlaajompcbmdoab
