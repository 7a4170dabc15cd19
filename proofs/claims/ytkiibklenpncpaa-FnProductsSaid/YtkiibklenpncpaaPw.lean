/- Products: the program and the model answer 'prB' (ProductValid), 'ptB' (ProductTouched) and 'pvV' (ProductValue). -/
import Derived.Test.YtkiibklenpncpaaPv
import Derived.Test.YtkiibklenpncpaaSf
import Derived.Test.YtkiibklenpncpaaMw
import Derived.Test.YtkiibklenpncpaaMf
namespace Go.Proofs.Ytkiibklenpncpaa
open Go.RowKit
set_option linter.unusedVariables false

theorem andT (a b : Bool) (h : a = true) : (a && b) = b := by rw [h]; rfl
theorem andF (a b : Bool) (h : a = false) : (a && b) = false := by rw [h]; rfl
set_option maxHeartbeats 1000000 in
theorem prv_impl (s t f n g : Int) (w : World) :
    Calls Try.prog 61 #[.agg #[.int .i64 s, .int .i64 t, .int .i64 f, .int .i64 n, .int .i64 g]] w fun e w' => e = .returned (.bool (prB s t f n g)) ∧ Keep w w' := by
  have HK : Keep w (w.alloc (.cells #[.int .i64 s, .int .i64 t, .int .i64 f, .int .i64 n, .int .i64 g] 33)) := (Keep.refl w).alloc _
  rcases Bool.eq_false_or_eq_true (saB s t f n) with hs | hs
  all_goals
    go_enter Try.func61, Try.ntmps61
    go_wp2_with (go_at_call 102; refine (sa_impl _ _ _ _ _).mono ?_; rintro e w' ⟨he, rfl⟩; rw [hs] at he; subst he)
    all_goals
      go_ret
      refine ⟨retB ?_, HK⟩
      rw [prB, hs, Bool.eq_iff_iff]; simp [inB] <;> omega
set_option maxHeartbeats 1000000 in
theorem prv_spec (s t f n g : Int) (w : World) :
    Calls Try.prog 98 #[.agg #[.int .i64 s, .int .i64 t, .int .i64 f, .int .i64 n, .int .i64 g]] w fun e w' => e = .returned (.bool (prB s t f n g)) ∧ Keep w w' := by
  have HK : Keep w (w.alloc (.cells #[.int .i64 s, .int .i64 t, .int .i64 f, .int .i64 n, .int .i64 g] 33)) := (Keep.refl w).alloc _
  go_enter Try.func98, Try.ntmps98
  go_wp2_with (first | (go_at_call 125; refine (kl_spec _ _).mono ?_; rintro e w' ⟨rfl, rfl⟩) | (go_at_call 57; refine (l6In_any _ _ _ _).mono ?_; rintro e w' ⟨rfl, rfl⟩))
  all_goals
    go_ret
    refine ⟨retB ?_, HK⟩
    simp [prB, saB, *]
set_option maxRecDepth 100000 in
set_option maxHeartbeats 2000000 in
theorem pvv_impl (a : Option Addr) (cap : Nat) (rs : List R4) (v s t f n g : Int) (w : World) (h : Rs w a rs) (hm : rs.length ≤ 1048576) (hc : rs.length ≤ cap) :
    Calls Try.prog 16 #[.slice a rs.length cap, .int .i64 v, .agg #[.int .i64 s, .int .i64 t, .int .i64 f, .int .i64 n, .int .i64 g]] w fun e w' => e = .returned (.int .i64 (pvV rs v s t f n g)) ∧ Keep w w' := by
  have HL := Lib.hid (ssL_len rs v s t f n)
  have kA : Keep w (w.alloc (.cells #[.int .i64 s, .int .i64 t, .int .i64 f, .int .i64 n, .int .i64 g] 33)) := (Keep.refl w).alloc _
  rcases Bool.eq_false_or_eq_true (ssOk rs v s t f n) with hs | hs
  case' inr =>
    have HV := Lib.hid (pvB_ss (g := g) hs)
    go_enter Try.func16, Try.ntmps16
    go_wp2_with fail
    refine (ss_impl a cap rs v s t f n _ (h.keep kA) (by omega) hc).mono ?_
    rintro e w1 ⟨p, q, he, hF, k1⟩
    rw [hs] at he
    subst he
    have K1 := kA.trans k1
    clear hF
    go_wp2
    go_ret
    exact ⟨retI HV.out.symm, K1⟩
  rcases Bool.eq_false_or_eq_true (prB s t f n g) with hp | hp
  case' inr =>
    have HV := Lib.hid (pvB_pr (rs := rs) (v := v) hp)
    go_enter Try.func16, Try.ntmps16
    go_wp2_with fail
    refine (ss_impl a cap rs v s t f n _ (h.keep kA) (by omega) hc).mono ?_
    rintro e w1 ⟨p, q, he, hF, k1⟩
    rw [hs] at he
    subst he
    have c0 := k1.cell (b := w.heap.size) (o := 0) (v := .int .i64 s) (by go_simp)
    have c1 := k1.cell (b := w.heap.size) (o := 1) (v := .int .i64 t) (by go_simp)
    have c2 := k1.cell (b := w.heap.size) (o := 2) (v := .int .i64 f) (by go_simp)
    have c3 := k1.cell (b := w.heap.size) (o := 3) (v := .int .i64 n) (by go_simp)
    have c4 := k1.cell (b := w.heap.size) (o := 4) (v := .int .i64 g) (by go_simp)
    have K1 := kA.trans k1
    clear hF hs
    generalize (ssL rs v s t f n).length = m at *
    go_wp2_with fail
    refine (prv_impl _ _ _ _ _ _).mono ?_
    rintro e w2 ⟨he, k2⟩
    rw [hp] at he
    subst he
    go_wp2
    go_ret
    exact ⟨retI HV.out.symm, K1.trans k2⟩
  have HB := Lib.hid (pvB_me (rs := rs) (v := v) (s := s) (t := t) (f := f) (n := n) (g := g))
  have HY := Lib.hid (pvB_all (rs := rs) (v := v) (s := s) (t := t) (f := f) (n := n) (g := g) hs hp)
  go_enter Try.func16, Try.ntmps16
  go_wp2_with fail
  refine (ss_impl a cap rs v s t f n _ (h.keep kA) (by omega) hc).mono ?_
  rintro e w1 ⟨p, q, he, hF, k1⟩
  rw [hs] at he
  subst he
  have c0 := k1.cell (b := w.heap.size) (o := 0) (v := .int .i64 s) (by go_simp)
  have c1 := k1.cell (b := w.heap.size) (o := 1) (v := .int .i64 t) (by go_simp)
  have c2 := k1.cell (b := w.heap.size) (o := 2) (v := .int .i64 f) (by go_simp)
  have c3 := k1.cell (b := w.heap.size) (o := 3) (v := .int .i64 n) (by go_simp)
  have c4 := k1.cell (b := w.heap.size) (o := 4) (v := .int .i64 g) (by go_simp)
  have K1 := kA.trans k1
  have hLs := hF.ls
  clear hF hs h k1
  generalize ssL rs v s t f n = L at *
  go_wp2_with fail
  refine (prv_impl _ _ _ _ _ _).mono ?_
  rintro e w2 ⟨he, k2⟩
  rw [hp] at he
  subst he
  have c4' := k2.cell c4
  have hLs2 := hLs.keep k2
  have K2 := K1.trans k2
  clear c0 c1 c2 c3 c4 hLs K1 k2
  have hl2 := HL.out
  go_wp2_with fail
  refine (me_impl p q L g _ hLs2 (by omega)).mono ?_
  rintro e w3 ⟨rfl, k3⟩
  rcases Bool.eq_false_or_eq_true (meB L g) with hb | hb
  · replace HY := Lib.hid (HY.out hb)
    rw [hb]
    clear hb hLs2 HB
    generalize meV L g = x at *
    go_wp2
    go_ret
    exact ⟨retI HY.out.symm, K2.trans k3⟩
  · replace HB := Lib.hid (HB.out hb)
    rw [hb]
    clear hb hLs2 HY
    generalize meV L g = x at *
    go_wp2
    go_ret
    exact ⟨retI HB.out.symm, K2.trans k3⟩
set_option maxRecDepth 100000 in
set_option maxHeartbeats 2000000 in
theorem pvv_spec (a : Option Addr) (cap : Nat) (rs : List R4) (v s t f n g : Int) (w : World) (h : Rs w a rs) (hm : rs.length ≤ 1048576) (hc : rs.length ≤ cap) :
    Calls Try.prog 59 #[.slice a rs.length cap, .int .i64 v, .agg #[.int .i64 s, .int .i64 t, .int .i64 f, .int .i64 n, .int .i64 g]] w fun e w' => e = .returned (.int .i64 (pvV rs v s t f n g)) ∧ Keep w w' := by
  have HL := Lib.hid (ssL_len rs v s t f n)
  have kA : Keep w (w.alloc (.cells #[.int .i64 s, .int .i64 t, .int .i64 f, .int .i64 n, .int .i64 g] 33)) := (Keep.refl w).alloc _
  rcases Bool.eq_false_or_eq_true (ssOk rs v s t f n) with hs | hs
  case' inr =>
    have HV := Lib.hid (pvB_ss (g := g) hs)
    go_enter Try.func59, Try.ntmps59
    go_wp2_with fail
    refine (ss_spec a cap rs v s t f n _ (h.keep kA) (by omega) hc).mono ?_
    rintro e w1 ⟨p, q, he, hF, k1⟩
    rw [hs] at he
    subst he
    have K1 := kA.trans k1
    clear hF
    go_wp2
    go_ret
    exact ⟨retI HV.out.symm, K1⟩
  rcases Bool.eq_false_or_eq_true (prB s t f n g) with hp | hp
  case' inr =>
    have HV := Lib.hid (pvB_pr (rs := rs) (v := v) hp)
    go_enter Try.func59, Try.ntmps59
    go_wp2_with fail
    refine (ss_spec a cap rs v s t f n _ (h.keep kA) (by omega) hc).mono ?_
    rintro e w1 ⟨p, q, he, hF, k1⟩
    rw [hs] at he
    subst he
    have c0 := k1.cell (b := w.heap.size) (o := 0) (v := .int .i64 s) (by go_simp)
    have c1 := k1.cell (b := w.heap.size) (o := 1) (v := .int .i64 t) (by go_simp)
    have c2 := k1.cell (b := w.heap.size) (o := 2) (v := .int .i64 f) (by go_simp)
    have c3 := k1.cell (b := w.heap.size) (o := 3) (v := .int .i64 n) (by go_simp)
    have c4 := k1.cell (b := w.heap.size) (o := 4) (v := .int .i64 g) (by go_simp)
    have K1 := kA.trans k1
    clear hF hs
    generalize (ssL rs v s t f n).length = m at *
    go_wp2_with fail
    refine (prv_spec _ _ _ _ _ _).mono ?_
    rintro e w2 ⟨he, k2⟩
    rw [hp] at he
    subst he
    go_wp2
    go_ret
    exact ⟨retI HV.out.symm, K1.trans k2⟩
  have HB := Lib.hid (pvB_me (rs := rs) (v := v) (s := s) (t := t) (f := f) (n := n) (g := g))
  have HY := Lib.hid (pvB_all (rs := rs) (v := v) (s := s) (t := t) (f := f) (n := n) (g := g) hs hp)
  go_enter Try.func59, Try.ntmps59
  go_wp2_with fail
  refine (ss_spec a cap rs v s t f n _ (h.keep kA) (by omega) hc).mono ?_
  rintro e w1 ⟨p, q, he, hF, k1⟩
  rw [hs] at he
  subst he
  have c0 := k1.cell (b := w.heap.size) (o := 0) (v := .int .i64 s) (by go_simp)
  have c1 := k1.cell (b := w.heap.size) (o := 1) (v := .int .i64 t) (by go_simp)
  have c2 := k1.cell (b := w.heap.size) (o := 2) (v := .int .i64 f) (by go_simp)
  have c3 := k1.cell (b := w.heap.size) (o := 3) (v := .int .i64 n) (by go_simp)
  have c4 := k1.cell (b := w.heap.size) (o := 4) (v := .int .i64 g) (by go_simp)
  have K1 := kA.trans k1
  have hLs := hF.ls
  clear hF hs h k1
  generalize ssL rs v s t f n = L at *
  go_wp2_with fail
  refine (prv_spec _ _ _ _ _ _).mono ?_
  rintro e w2 ⟨he, k2⟩
  rw [hp] at he
  subst he
  have c4' := k2.cell c4
  have hLs2 := hLs.keep k2
  have K2 := K1.trans k2
  clear c0 c1 c2 c3 c4 hLs K1 k2
  have hl2 := HL.out
  go_wp2_with fail
  refine (me_spec p q L g _ hLs2 (by omega)).mono ?_
  rintro e w3 ⟨rfl, k3⟩
  rcases Bool.eq_false_or_eq_true (meB L g) with hb | hb
  · replace HY := Lib.hid (HY.out hb)
    rw [hb]
    clear hb hLs2 HB
    generalize meV L g = x at *
    go_wp2
    go_ret
    exact ⟨retI HY.out.symm, K2.trans k3⟩
  · replace HB := Lib.hid (HB.out hb)
    rw [hb]
    clear hb hLs2 HY
    generalize meV L g = x at *
    go_wp2
    go_ret
    exact ⟨retI HB.out.symm, K2.trans k3⟩
end Go.Proofs.Ytkiibklenpncpaa
