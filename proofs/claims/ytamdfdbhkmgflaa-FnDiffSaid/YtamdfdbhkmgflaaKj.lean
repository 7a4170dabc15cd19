/- DiffOf of the program. -/
import Derived.Test.YtamdfdbhkmgflaaKi
namespace Go.Proofs.Ytamdfdbhkmgflaa
open Go.RowKit
set_option linter.unusedVariables false

theorem Rs.onlyLo2 {B : Nat} {w w' : World} {a : Option Addr} {rs : List R4} (h : Rs w a rs) (hl : Lo B a rs.length) (ho : Only B w w') : Rs w' a rs := by
  rcases h with h | ⟨b, off, ha, hlt, hc⟩
  · exact .inl h
  · rcases hl with hl | hl
    · exact .inl (List.eq_nil_of_length_eq_zero hl)
    · have hne : b < B := hl b off ha
      exact .inr ⟨b, off, ha, Nat.lt_of_lt_of_le hlt ho.size, fun i hi => (hc i hi).same fun j => ho.cell b j hlt (by omega)⟩
theorem Rs.lo2 {w : World} {a : Option Addr} {rs : List R4} (h : Rs w a rs) : Lo w.heap.size a rs.length := by
  rcases h with h | ⟨b, off, ha, hlt, hc⟩
  · left; rw [h]; rfl
  · right; intro b' o' hb'; rw [ha] at hb'; injection hb' with hb'; injection hb' with hb' _ _; omega
/-- What a DiffOf answers: the keys, in new memory. -/
def DfPost (rs : List R4) (A B : Int) (w : World) (e : Ending) (w' : World) : Prop :=
  ∃ q c, e = .returned (.slice q (dfL rs A B).length c) ∧ FrK w w' q (dfL rs A B) ∧ Keep w w'
theorem df_kkp {rs : List R4} {A B : Int} (h : dfOk rs A B = true) {ys : List K3} (hp : ys.Perm (rs.map keyR)) (hs : ys.Pairwise (fun a b => klt b a = false)) : kkp (svB rs A B) (kcp ys) = dfL rs A B := by
  rw [dfL_yes h, ← df_one hp hs, kkp]
  simp only [dfOk, Bool.and_eq_true] at h
  obtain ⟨_, _, m1, rfl, _⟩ := vrB_facts h.1
  obtain ⟨_, _, m2, rfl, _⟩ := vrB_facts h.2
  congr 1
  funext k
  unfold svB dfB
  rw [svV_yes h.1, svV_yes h.2]
  rfl
set_option maxRecDepth 100000 in
set_option maxHeartbeats 4000000 in
theorem df_impl (a : Option Addr) (cap : Nat) (rs : List R4) (A B : Int) (w : World) (h : Rs w a rs) (hm : rs.length ≤ 1048576) (hc : rs.length ≤ cap) :
    Calls Try.prog 7 #[.slice a rs.length cap, .int .i64 A, .int .i64 B] w (DfPost rs A B w) := by
  have HV : Hid (∀ (n : Int) (W : World), Rs W a rs → Calls Try.prog 22 #[.slice a rs.length cap, .int .i64 n] W fun e w' => e = .returned (.bool (vrB rs n)) ∧ Keep W w') := Lib.hid (fun n W hW => vv_impl a cap rs n W hW (by omega))
  have HD : Hid (dfOk rs A B = (vrB rs A && vrB rs B)) := Lib.hid rfl
  rcases Bool.eq_false_or_eq_true (vrB rs A) with hA | hA
  case' inr =>
    have HN : Hid (dfL rs A B = []) := Lib.hid (dfL_no (by rw [HD.out, hA]; rfl))
    have HVA := Lib.hid (HV.out A w h)
    rw [hA] at HVA
    clear hA HV HD
    go_enter Try.func7, Try.ntmps7
    go_wp2_with (go_at_call 22; refine HVA.out.mono ?_; rintro e w1 ⟨rfl, k1⟩)
    go_ret
    exact ⟨none, 0, by rw [HN.out]; rfl, .inl HN.out, k1⟩
  rcases Bool.eq_false_or_eq_true (vrB rs B) with hB | hB
  case' inr =>
    have HN : Hid (dfL rs A B = []) := Lib.hid (dfL_no (by rw [HD.out, hA, hB]; rfl))
    have HVA := Lib.hid (HV.out A w h)
    rw [hA] at HVA
    have HVB : Hid (∀ W, Rs W a rs → Calls Try.prog 22 #[.slice a rs.length cap, .int .i64 B] W fun e w' => e = .returned (.bool false) ∧ Keep W w') := Lib.hid (fun W hW => by have := HV.out B W hW; rwa [hB] at this)
    clear hA hB HV HD
    go_enter Try.func7, Try.ntmps7
    go_wp2_with fail
    refine HVA.out.mono ?_
    rintro e w1 ⟨rfl, k1⟩
    go_wp2_with fail
    refine (HVB.out _ (h.keep k1)).mono ?_
    rintro e w2 ⟨rfl, k2⟩
    go_wp2
    go_ret
    exact ⟨none, 0, by rw [HN.out]; rfl, .inl HN.out, k1.trans k2⟩
  have HO : Hid (dfOk rs A B = true) := Lib.hid (by rw [HD.out, hA, hB]; rfl)
  have HVA := Lib.hid (HV.out A w h)
  rw [hA] at HVA
  have HVB : Hid (∀ W, Rs W a rs → Calls Try.prog 22 #[.slice a rs.length cap, .int .i64 B] W fun e w' => e = .returned (.bool true) ∧ Keep W w') := Lib.hid (fun W hW => by have := HV.out B W hW; rwa [hB] at this)
  clear hA hB HV HD
  go_enter Try.func7, Try.ntmps7
  go_wp2_with fail
  refine HVA.out.mono ?_
  rintro e w1 ⟨rfl, k1⟩
  go_wp2_with fail
  refine (HVB.out _ (h.keep k1)).mono ?_
  rintro e w2 ⟨rfl, k2⟩
  have k02 := k1.trans k2
  go_wp2_with fail
  refine (as_any a rs.length cap A _).mono ?_
  rintro e w3 ⟨rfl, k3⟩
  have k03 := k02.trans k3
  go_wp2_with fail
  refine (as_any a rs.length cap B _).mono ?_
  rintro e w4 ⟨rfl, k4⟩
  have k04 := k03.trans k4
  go_wp2_with fail
  generalize hw5 : (w4.alloc (.cells #[.slice a rs.length cap, .int .i64 A] 51)).alloc (.cells #[.slice a rs.length cap, .int .i64 B] 51) = w5
  have k5 : Keep w4 w5 := by rw [← hw5]; exact ((Keep.refl w4).alloc _).alloc _
  have s5 : w5.heap.size = w4.heap.size + 2 := by rw [← hw5]; simp
  have c0 : w5.cell? ⟨w4.heap.size, 0, none⟩ = some (.slice a rs.length cap) := by rw [← hw5]; exact ((Keep.refl _).alloc _).cell (cell_newAt rfl rfl)
  have c1 : w5.cell? ⟨w4.heap.size, 1, none⟩ = some (.int .i64 A) := by rw [← hw5]; exact ((Keep.refl _).alloc _).cell (cell_newAt rfl rfl)
  have d0 : w5.cell? ⟨w4.heap.size + 1, 0, none⟩ = some (.slice a rs.length cap) := by rw [← hw5]; exact cell_newAt (by simp) rfl
  have d1 : w5.cell? ⟨w4.heap.size + 1, 1, none⟩ = some (.int .i64 B) := by rw [← hw5]; exact cell_newAt (by simp) rfl
  have k05 := k04.trans k5
  clear hw5
  refine (keys_any a cap rs w5 (h.keep k05) hm).mono ?_
  rintro e w6 ⟨g, c, ys, rfl, hyc, hyl, hg1, hg2, hW6, hperm, hpw, k6⟩
  have L6 := (h.keep k05).keep k6
  have LL := (h.keep k05).lo2
  have hcl : ClK g w6 (.pointer (some ⟨w4.heap.size, 0, none⟩)) (.pointer (some ⟨w4.heap.size + 1, 0, none⟩)) (svB rs A B) := fun s d t W hO =>
    cl_any a cap rs A B s d t w4.heap.size (w4.heap.size + 1) W (L6.onlyLo2 (LL.mono hg1) hO) hm hc
      ((hO.cell _ _ (by have := k6.size; omega) (by omega)).trans (k6.cell c0)) ((hO.cell _ _ (by have := k6.size; omega) (by omega)).trans (k6.cell c1))
      ((hO.cell _ _ (by have := k6.size; omega) (by omega)).trans (k6.cell d0)) ((hO.cell _ _ (by have := k6.size; omega) (by omega)).trans (k6.cell d1))
  have HDl := Lib.hid (delK g c (kcp ys) _ _ _ w6 hW6 hcl hg2 (by omega) hyc)
  have HE := Lib.hid (df_kkp HO.out hperm hpw)
  rw [HE.out] at HDl
  have HK := Lib.hid (k05.trans k6)
  have c0' := k6.cell c0
  clear hperm hpw hcl c0 c1 d0 d1
  go_wp2_with fail
  refine HDl.out.mono ?_
  rintro e w7 ⟨rfl, hO7, hW7⟩
  go_wp2
  go_ret
  have := k05.size
  have := hO7.size
  exact ⟨some ⟨g, 0, none⟩, c, rfl, .inr ⟨g, rfl, by omega, by omega, hW7⟩, Keep.trans' HK.out hO7 (by omega)⟩
end Go.Proofs.Ytamdfdbhkmgflaa
