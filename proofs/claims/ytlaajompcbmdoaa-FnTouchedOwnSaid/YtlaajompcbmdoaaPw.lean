/- Products: the program and the model answer 'prB' (ProductValid), 'ptB' (ProductTouched) and 'pvV' (ProductValue). -/
import Derived.Test.YtlaajompcbmdoaaPv
import Derived.Test.YtlaajompcbmdoaaSf
import Derived.Test.YtlaajompcbmdoaaMw
import Derived.Test.YtlaajompcbmdoaaMf
namespace Go.Proofs.Ytlaajompcbmdoaa
open Go.RowKit
set_option linter.unusedVariables false

theorem andT (a b : Bool) (h : a = true) : (a && b) = b := by rw [h]; rfl
theorem andF (a b : Bool) (h : a = false) : (a && b) = false := by rw [h]; rfl
set_option maxHeartbeats 1000000 in
theorem prv_impl (s t f n g : Int) (w : World) :
    Calls Try.prog 17 #[.agg #[.int .i64 s, .int .i64 t, .int .i64 f, .int .i64 n, .int .i64 g]] w fun e w' => e = .returned (.bool (prB s t f n g)) ∧ Keep w w' := by
  have HK : Keep w (w.alloc (.cells #[.int .i64 s, .int .i64 t, .int .i64 f, .int .i64 n, .int .i64 g] 25)) := (Keep.refl w).alloc _
  rcases Bool.eq_false_or_eq_true (saB s t f n) with hs | hs
  all_goals
    go_enter Try.func17, Try.ntmps17
    go_wp2_with (go_at_call 54; refine (sa_impl _ _ _ _ _).mono ?_; rintro e w' ⟨he, rfl⟩; rw [hs] at he; subst he)
    all_goals
      go_ret
      refine ⟨retB ?_, HK⟩
      rw [prB, hs, Bool.eq_iff_iff]; simp [inB] <;> omega
set_option maxHeartbeats 1000000 in
theorem prv_spec (s t f n g : Int) (w : World) :
    Calls Try.prog 15 #[.agg #[.int .i64 s, .int .i64 t, .int .i64 f, .int .i64 n, .int .i64 g]] w fun e w' => e = .returned (.bool (prB s t f n g)) ∧ Keep w w' := by
  have HK : Keep w (w.alloc (.cells #[.int .i64 s, .int .i64 t, .int .i64 f, .int .i64 n, .int .i64 g] 25)) := (Keep.refl w).alloc _
  go_enter Try.func15, Try.ntmps15
  go_wp2_with (first | (go_at_call 52; refine (kl_spec _ _).mono ?_; rintro e w' ⟨rfl, rfl⟩) | (go_at_call 53; refine (l6In_any _ _ _ _).mono ?_; rintro e w' ⟨rfl, rfl⟩))
  all_goals
    go_ret
    refine ⟨retB ?_, HK⟩
    simp [prB, saB, *]
set_option maxHeartbeats 2000000 in
theorem pt_impl (s t f n g a b c d : Int) (w : World) :
    Calls Try.prog 20 #[.agg #[.int .i64 s, .int .i64 t, .int .i64 f, .int .i64 n, .int .i64 g], .agg #[.int .i64 a, .int .i64 b, .int .i64 c, .int .i64 d]] w fun e w' => e = .returned (.bool (ptB s t f n g (a, b, c, d))) ∧ Keep w w' := by
  have hp0 : ptB s t f n g (a, b, c, d) = (prB s t f n g && (rOk a b c d && (decide (a = s) && (decide (c = t) && inB b f (f + n - 1))))) := rfl
  rcases Bool.eq_false_or_eq_true (prB s t f n g) with hp | hp
  case' inr =>
    rw [hp0, hp]
    go_enter Try.func20, Try.ntmps20
    go_wp2_with (go_at_call 17; refine (prv_impl _ _ _ _ _ _).mono ?_; rintro e w1 ⟨he, k1⟩; rw [hp] at he; subst he)
    go_ret
    exact ⟨rfl, (((Keep.refl w).alloc _).alloc _).trans k1⟩
  rcases Bool.eq_false_or_eq_true (rOk a b c d) with hr | hr
  case' inr =>
    rw [hp0, hp, hr]
    go_enter Try.func20, Try.ntmps20
    go_wp2_with fail
    refine (prv_impl _ _ _ _ _ _).mono ?_
    rintro e w1 ⟨he, k1⟩
    rw [hp] at he
    subst he
    have c0 := k1.cell (b := w.heap.size) (o := 0) (v := .int .i64 s) (by go_simp)
    have d0 := k1.cell (b := w.heap.size + 1) (o := 0) (v := .int .i64 a) (by go_simp)
    have d1 := k1.cell (b := w.heap.size + 1) (o := 1) (v := .int .i64 b) (by go_simp)
    have d2 := k1.cell (b := w.heap.size + 1) (o := 2) (v := .int .i64 c) (by go_simp)
    have d3 := k1.cell (b := w.heap.size + 1) (o := 3) (v := .int .i64 d) (by go_simp)
    have K1 : Keep w w1 := (((Keep.refl w).alloc _).alloc _).trans k1
    go_wp2_with fail
    refine (rv_impl _ _ _ _ _).mono ?_
    rintro e w2 ⟨he, k2⟩
    rw [hr] at he
    subst he
    go_wp2
    go_ret
    exact ⟨rfl, K1.trans k2⟩
  have hf := saB_facts (prB_facts hp).1
  obtain ⟨_, _, ⟨f0, f1⟩, m, rfl, n0, n1⟩ := hf
  rw [hp0, hp, hr]
  go_enter Try.func20, Try.ntmps20
  go_wp2_with fail
  refine (prv_impl _ _ _ _ _ _).mono ?_
  rintro e w1 ⟨he, k1⟩
  rw [hp] at he
  subst he
  have c0 := k1.cell (b := w.heap.size) (o := 0) (v := .int .i64 s) (by go_simp)
  have c1 := k1.cell (b := w.heap.size) (o := 1) (v := .int .i64 t) (by go_simp)
  have c2 := k1.cell (b := w.heap.size) (o := 2) (v := .int .i64 f) (by go_simp)
  have c3 := k1.cell (b := w.heap.size) (o := 3) (v := .int .i64 (m : Int)) (by go_simp)
  have d0 := k1.cell (b := w.heap.size + 1) (o := 0) (v := .int .i64 a) (by go_simp)
  have d1 := k1.cell (b := w.heap.size + 1) (o := 1) (v := .int .i64 b) (by go_simp)
  have d2 := k1.cell (b := w.heap.size + 1) (o := 2) (v := .int .i64 c) (by go_simp)
  have d3 := k1.cell (b := w.heap.size + 1) (o := 3) (v := .int .i64 d) (by go_simp)
  have K1 : Keep w w1 := (((Keep.refl w).alloc _).alloc _).trans k1
  clear hp hp0
  go_wp2_with fail
  refine (rv_impl _ _ _ _ _).mono ?_
  rintro e w2 ⟨he, k2'⟩
  have k2 : Keep w1 w2 := k2'
  rw [hr] at he
  subst he
  have c0' := k2.cell c0
  have c1' := k2.cell c1
  have c2' := k2.cell c2
  have c3' := k2.cell c3
  have d0' := k2.cell d0
  have d1' := k2.cell d1
  have d2' := k2.cell d2
  have K2 := K1.trans k2
  clear c0 c1 c2 c3 d0 d1 d2 d3 k1 k2 k2' K1 hr
  go_wp2
  all_goals
    go_ret
    refine ⟨retB ?_, K2⟩
    rw [Bool.eq_iff_iff]; simp [inB, *] <;> omega
set_option maxHeartbeats 2000000 in
theorem pt_spec (s t f n g a b c d : Int) (w : World) :
    Calls Try.prog 18 #[.agg #[.int .i64 s, .int .i64 t, .int .i64 f, .int .i64 n, .int .i64 g], .agg #[.int .i64 a, .int .i64 b, .int .i64 c, .int .i64 d]] w fun e w' => e = .returned (.bool (ptB s t f n g (a, b, c, d))) ∧ Keep w w' := by
  have hp0 : ptB s t f n g (a, b, c, d) = (prB s t f n g && (rOk a b c d && (decide (a = s) && (decide (c = t) && inB b f (f + n - 1))))) := rfl
  rcases Bool.eq_false_or_eq_true (prB s t f n g) with hp | hp
  case' inr =>
    rw [hp0, hp]
    go_enter Try.func18, Try.ntmps18
    go_wp2_with (go_at_call 15; refine (prv_spec _ _ _ _ _ _).mono ?_; rintro e w1 ⟨he, k1⟩; rw [hp] at he; subst he)
    go_ret
    exact ⟨rfl, (((Keep.refl w).alloc _).alloc _).trans k1⟩
  rcases Bool.eq_false_or_eq_true (rOk a b c d) with hr | hr
  case' inr =>
    rw [hp0, hp, hr]
    go_enter Try.func18, Try.ntmps18
    go_wp2_with fail
    refine (prv_spec _ _ _ _ _ _).mono ?_
    rintro e w1 ⟨he, k1⟩
    rw [hp] at he
    subst he
    have d0 := k1.cell (b := w.heap.size + 1) (o := 0) (v := .int .i64 a) (by go_simp)
    have d1 := k1.cell (b := w.heap.size + 1) (o := 1) (v := .int .i64 b) (by go_simp)
    have d2 := k1.cell (b := w.heap.size + 1) (o := 2) (v := .int .i64 c) (by go_simp)
    have d3 := k1.cell (b := w.heap.size + 1) (o := 3) (v := .int .i64 d) (by go_simp)
    have K1 : Keep w w1 := (((Keep.refl w).alloc _).alloc _).trans k1
    go_wp2_with fail
    refine (rv_spec _ _ _ _ _).mono ?_
    rintro e w2 ⟨he, k2⟩
    rw [hr] at he
    subst he
    go_wp2
    go_ret
    exact ⟨rfl, K1.trans k2⟩
  have hf := saB_facts (prB_facts hp).1
  obtain ⟨_, _, ⟨f0, f1⟩, m, rfl, n0, n1⟩ := hf
  rw [hp0, hp, hr]
  go_enter Try.func18, Try.ntmps18
  go_wp2_with fail
  refine (prv_spec _ _ _ _ _ _).mono ?_
  rintro e w1 ⟨he, k1⟩
  rw [hp] at he
  subst he
  have c0 := k1.cell (b := w.heap.size) (o := 0) (v := .int .i64 s) (by go_simp)
  have c1 := k1.cell (b := w.heap.size) (o := 1) (v := .int .i64 t) (by go_simp)
  have c2 := k1.cell (b := w.heap.size) (o := 2) (v := .int .i64 f) (by go_simp)
  have c3 := k1.cell (b := w.heap.size) (o := 3) (v := .int .i64 (m : Int)) (by go_simp)
  have d0 := k1.cell (b := w.heap.size + 1) (o := 0) (v := .int .i64 a) (by go_simp)
  have d1 := k1.cell (b := w.heap.size + 1) (o := 1) (v := .int .i64 b) (by go_simp)
  have d2 := k1.cell (b := w.heap.size + 1) (o := 2) (v := .int .i64 c) (by go_simp)
  have d3 := k1.cell (b := w.heap.size + 1) (o := 3) (v := .int .i64 d) (by go_simp)
  have K1 : Keep w w1 := (((Keep.refl w).alloc _).alloc _).trans k1
  clear hp hp0
  go_wp2_with fail
  refine (rv_spec _ _ _ _ _).mono ?_
  rintro e w2 ⟨he, k2'⟩
  have k2 : Keep w1 w2 := k2'
  rw [hr] at he
  subst he
  have c0' := k2.cell c0
  have c1' := k2.cell c1
  have c2' := k2.cell c2
  have c3' := k2.cell c3
  have d0' := k2.cell d0
  have d1' := k2.cell d1
  have d2' := k2.cell d2
  have K2 := K1.trans k2
  clear c0 c1 c2 c3 d0 d1 d2 d3 k1 k2 k2' K1 hr
  go_wp2_with (go_at_call 53; refine (l6In_any _ _ _ _).mono ?_; rintro e w' ⟨rfl, rfl⟩)
  all_goals
    go_ret
    refine ⟨retB ?_, K2⟩
    simp [*]
set_option maxRecDepth 100000 in
set_option maxHeartbeats 2000000 in
theorem pvv_impl (a : Option Addr) (cap : Nat) (rs : List R4) (v s t f n g : Int) (w : World) (h : Rs w a rs) (hm : rs.length ≤ 1048576) (hc : rs.length ≤ cap) :
    Calls Try.prog 24 #[.slice a rs.length cap, .int .i64 v, .agg #[.int .i64 s, .int .i64 t, .int .i64 f, .int .i64 n, .int .i64 g]] w fun e w' => e = .returned (.int .i64 (pvV rs v s t f n g)) ∧ Keep w w' := by
  have HL := Lib.hid (ssL_len rs v s t f n)
  have kA : Keep w (w.alloc (.cells #[.int .i64 s, .int .i64 t, .int .i64 f, .int .i64 n, .int .i64 g] 25)) := (Keep.refl w).alloc _
  rcases Bool.eq_false_or_eq_true (ssOk rs v s t f n) with hs | hs
  case' inr =>
    have HV := Lib.hid (pvB_ss (g := g) hs)
    go_enter Try.func24, Try.ntmps24
    go_wp2_with fail
    refine (ss_impl a cap rs v s t f n _ (h.keep kA) (by omega) hc).mono ?_
    rintro e w1 ⟨p, q, he, hF, k1⟩
    rw [hs] at he
    subst he
    have K1 := kA.trans k1
    clear hF
    go_wp2
    go_ret
    exact ⟨retI HV.out.symm, K1⟩
  rcases Bool.eq_false_or_eq_true (prB s t f n g) with hp | hp
  case' inr =>
    have HV := Lib.hid (pvB_pr (rs := rs) (v := v) hp)
    go_enter Try.func24, Try.ntmps24
    go_wp2_with fail
    refine (ss_impl a cap rs v s t f n _ (h.keep kA) (by omega) hc).mono ?_
    rintro e w1 ⟨p, q, he, hF, k1⟩
    rw [hs] at he
    subst he
    have c0 := k1.cell (b := w.heap.size) (o := 0) (v := .int .i64 s) (by go_simp)
    have c1 := k1.cell (b := w.heap.size) (o := 1) (v := .int .i64 t) (by go_simp)
    have c2 := k1.cell (b := w.heap.size) (o := 2) (v := .int .i64 f) (by go_simp)
    have c3 := k1.cell (b := w.heap.size) (o := 3) (v := .int .i64 n) (by go_simp)
    have c4 := k1.cell (b := w.heap.size) (o := 4) (v := .int .i64 g) (by go_simp)
    have K1 := kA.trans k1
    clear hF hs
    generalize (ssL rs v s t f n).length = m at *
    go_wp2_with fail
    refine (prv_impl _ _ _ _ _ _).mono ?_
    rintro e w2 ⟨he, k2⟩
    rw [hp] at he
    subst he
    go_wp2
    go_ret
    exact ⟨retI HV.out.symm, K1.trans k2⟩
  have HB := Lib.hid (pvB_me (rs := rs) (v := v) (s := s) (t := t) (f := f) (n := n) (g := g))
  have HY := Lib.hid (pvB_all (rs := rs) (v := v) (s := s) (t := t) (f := f) (n := n) (g := g) hs hp)
  go_enter Try.func24, Try.ntmps24
  go_wp2_with fail
  refine (ss_impl a cap rs v s t f n _ (h.keep kA) (by omega) hc).mono ?_
  rintro e w1 ⟨p, q, he, hF, k1⟩
  rw [hs] at he
  subst he
  have c0 := k1.cell (b := w.heap.size) (o := 0) (v := .int .i64 s) (by go_simp)
  have c1 := k1.cell (b := w.heap.size) (o := 1) (v := .int .i64 t) (by go_simp)
  have c2 := k1.cell (b := w.heap.size) (o := 2) (v := .int .i64 f) (by go_simp)
  have c3 := k1.cell (b := w.heap.size) (o := 3) (v := .int .i64 n) (by go_simp)
  have c4 := k1.cell (b := w.heap.size) (o := 4) (v := .int .i64 g) (by go_simp)
  have K1 := kA.trans k1
  have hLs := hF.ls
  clear hF hs h k1
  generalize ssL rs v s t f n = L at *
  go_wp2_with fail
  refine (prv_impl _ _ _ _ _ _).mono ?_
  rintro e w2 ⟨he, k2⟩
  rw [hp] at he
  subst he
  have c4' := k2.cell c4
  have hLs2 := hLs.keep k2
  have K2 := K1.trans k2
  clear c0 c1 c2 c3 c4 hLs K1 k2
  have hl2 := HL.out
  go_wp2_with fail
  refine (me_impl p q L g _ hLs2 (by omega)).mono ?_
  rintro e w3 ⟨rfl, k3⟩
  rcases Bool.eq_false_or_eq_true (meB L g) with hb | hb
  · replace HY := Lib.hid (HY.out hb)
    rw [hb]
    clear hb hLs2 HB
    generalize meV L g = x at *
    go_wp2
    go_ret
    exact ⟨retI HY.out.symm, K2.trans k3⟩
  · replace HB := Lib.hid (HB.out hb)
    rw [hb]
    clear hb hLs2 HY
    generalize meV L g = x at *
    go_wp2
    go_ret
    exact ⟨retI HB.out.symm, K2.trans k3⟩
set_option maxRecDepth 100000 in
set_option maxHeartbeats 2000000 in
theorem pvv_spec (a : Option Addr) (cap : Nat) (rs : List R4) (v s t f n g : Int) (w : World) (h : Rs w a rs) (hm : rs.length ≤ 1048576) (hc : rs.length ≤ cap) :
    Calls Try.prog 22 #[.slice a rs.length cap, .int .i64 v, .agg #[.int .i64 s, .int .i64 t, .int .i64 f, .int .i64 n, .int .i64 g]] w fun e w' => e = .returned (.int .i64 (pvV rs v s t f n g)) ∧ Keep w w' := by
  have HL := Lib.hid (ssL_len rs v s t f n)
  have kA : Keep w (w.alloc (.cells #[.int .i64 s, .int .i64 t, .int .i64 f, .int .i64 n, .int .i64 g] 25)) := (Keep.refl w).alloc _
  rcases Bool.eq_false_or_eq_true (ssOk rs v s t f n) with hs | hs
  case' inr =>
    have HV := Lib.hid (pvB_ss (g := g) hs)
    go_enter Try.func22, Try.ntmps22
    go_wp2_with fail
    refine (ss_spec a cap rs v s t f n _ (h.keep kA) (by omega) hc).mono ?_
    rintro e w1 ⟨p, q, he, hF, k1⟩
    rw [hs] at he
    subst he
    have K1 := kA.trans k1
    clear hF
    go_wp2
    go_ret
    exact ⟨retI HV.out.symm, K1⟩
  rcases Bool.eq_false_or_eq_true (prB s t f n g) with hp | hp
  case' inr =>
    have HV := Lib.hid (pvB_pr (rs := rs) (v := v) hp)
    go_enter Try.func22, Try.ntmps22
    go_wp2_with fail
    refine (ss_spec a cap rs v s t f n _ (h.keep kA) (by omega) hc).mono ?_
    rintro e w1 ⟨p, q, he, hF, k1⟩
    rw [hs] at he
    subst he
    have c0 := k1.cell (b := w.heap.size) (o := 0) (v := .int .i64 s) (by go_simp)
    have c1 := k1.cell (b := w.heap.size) (o := 1) (v := .int .i64 t) (by go_simp)
    have c2 := k1.cell (b := w.heap.size) (o := 2) (v := .int .i64 f) (by go_simp)
    have c3 := k1.cell (b := w.heap.size) (o := 3) (v := .int .i64 n) (by go_simp)
    have c4 := k1.cell (b := w.heap.size) (o := 4) (v := .int .i64 g) (by go_simp)
    have K1 := kA.trans k1
    clear hF hs
    generalize (ssL rs v s t f n).length = m at *
    go_wp2_with fail
    refine (prv_spec _ _ _ _ _ _).mono ?_
    rintro e w2 ⟨he, k2⟩
    rw [hp] at he
    subst he
    go_wp2
    go_ret
    exact ⟨retI HV.out.symm, K1.trans k2⟩
  have HB := Lib.hid (pvB_me (rs := rs) (v := v) (s := s) (t := t) (f := f) (n := n) (g := g))
  have HY := Lib.hid (pvB_all (rs := rs) (v := v) (s := s) (t := t) (f := f) (n := n) (g := g) hs hp)
  go_enter Try.func22, Try.ntmps22
  go_wp2_with fail
  refine (ss_spec a cap rs v s t f n _ (h.keep kA) (by omega) hc).mono ?_
  rintro e w1 ⟨p, q, he, hF, k1⟩
  rw [hs] at he
  subst he
  have c0 := k1.cell (b := w.heap.size) (o := 0) (v := .int .i64 s) (by go_simp)
  have c1 := k1.cell (b := w.heap.size) (o := 1) (v := .int .i64 t) (by go_simp)
  have c2 := k1.cell (b := w.heap.size) (o := 2) (v := .int .i64 f) (by go_simp)
  have c3 := k1.cell (b := w.heap.size) (o := 3) (v := .int .i64 n) (by go_simp)
  have c4 := k1.cell (b := w.heap.size) (o := 4) (v := .int .i64 g) (by go_simp)
  have K1 := kA.trans k1
  have hLs := hF.ls
  clear hF hs h k1
  generalize ssL rs v s t f n = L at *
  go_wp2_with fail
  refine (prv_spec _ _ _ _ _ _).mono ?_
  rintro e w2 ⟨he, k2⟩
  rw [hp] at he
  subst he
  have c4' := k2.cell c4
  have hLs2 := hLs.keep k2
  have K2 := K1.trans k2
  clear c0 c1 c2 c3 c4 hLs K1 k2
  have hl2 := HL.out
  go_wp2_with fail
  refine (me_spec p q L g _ hLs2 (by omega)).mono ?_
  rintro e w3 ⟨rfl, k3⟩
  rcases Bool.eq_false_or_eq_true (meB L g) with hb | hb
  · replace HY := Lib.hid (HY.out hb)
    rw [hb]
    clear hb hLs2 HB
    generalize meV L g = x at *
    go_wp2
    go_ret
    exact ⟨retI HY.out.symm, K2.trans k3⟩
  · replace HB := Lib.hid (HB.out hb)
    rw [hb]
    clear hb hLs2 HY
    generalize meV L g = x at *
    go_wp2
    go_ret
    exact ⟨retI HB.out.symm, K2.trans k3⟩
end Go.Proofs.Ytlaajompcbmdoaa
