/- The middle of the least and the greatest reading: the program (by the library's Min and Max and two closures) and the model answer 'mid'. -/
import Derived.Test.YtkapnbfjpglblaaHw
import Derived.Test.YtkapnbfjpglblaaShelf
namespace Go.Proofs.Ytkapnbfjpglblaa
open Go.RowKit
set_option linter.unusedVariables false

def mn (zs : List Int) : Int := Lib.minOf zs
def mx (zs : List Int) : Int := Lib.maxOf zs
theorem foldl_min (zs : List Int) : ∀ c : Int, (zs.foldl min c ≤ c ∧ ∀ x ∈ zs, zs.foldl min c ≤ x) ∧ (zs.foldl min c = c ∨ zs.foldl min c ∈ zs) := by
  induction zs with
  | nil => intro c; simp
  | cons y r ih =>
    intro c
    obtain ⟨⟨h1, h2⟩, h3⟩ := ih (min c y)
    simp only [List.foldl_cons, List.mem_cons]
    refine ⟨⟨by omega, ?_⟩, ?_⟩
    · rintro x (rfl | hx)
      · omega
      · exact h2 x hx
    · rcases h3 with h3 | h3
      · rw [h3]
        by_cases hc : c ≤ y
        · left; omega
        · right; left; omega
      · exact .inr (.inr h3)
theorem foldl_max (zs : List Int) : ∀ c : Int, (c ≤ zs.foldl max c ∧ ∀ x ∈ zs, x ≤ zs.foldl max c) ∧ (zs.foldl max c = c ∨ zs.foldl max c ∈ zs) := by
  induction zs with
  | nil => intro c; simp
  | cons y r ih =>
    intro c
    obtain ⟨⟨h1, h2⟩, h3⟩ := ih (max c y)
    simp only [List.foldl_cons, List.mem_cons]
    refine ⟨⟨by omega, ?_⟩, ?_⟩
    · rintro x (rfl | hx)
      · omega
      · exact h2 x hx
    · rcases h3 with h3 | h3
      · rw [h3]
        by_cases hc : y ≤ c
        · left; omega
        · right; left; omega
      · exact .inr (.inr h3)
theorem mn_is {zs : List Int} (h : 0 < zs.length) : mn zs ∈ zs ∧ ∀ x ∈ zs, mn zs ≤ x := by
  cases zs with
  | nil => simp at h
  | cons y r =>
    obtain ⟨⟨h1, h2⟩, h3⟩ := foldl_min (y :: r) y
    refine ⟨?_, h2⟩
    rcases h3 with h3 | h3
    · show (y :: r).foldl min y ∈ _
      rw [h3]; exact List.mem_cons_self
    · exact h3
theorem mx_is {zs : List Int} (h : 0 < zs.length) : mx zs ∈ zs ∧ ∀ x ∈ zs, x ≤ mx zs := by
  cases zs with
  | nil => simp at h
  | cons y r =>
    obtain ⟨⟨h1, h2⟩, h3⟩ := foldl_max (y :: r) y
    refine ⟨?_, h2⟩
    rcases h3 with h3 | h3
    · show (y :: r).foldl max y ∈ _
      rw [h3]; exact List.mem_cons_self
    · exact h3
theorem mn_same {zs ys : List Int} (h : 0 < zs.length) (hp : ∀ x, x ∈ ys ↔ x ∈ zs) (h' : 0 < ys.length) : mn ys = mn zs ∧ mx ys = mx zs := by
  have a1 := mn_is h; have a2 := mn_is h'; have b1 := mx_is h; have b2 := mx_is h'
  have e1 := a1.2 _ ((hp _).1 a2.1); have e2 := a2.2 _ ((hp _).2 a1.1)
  have e3 := b1.2 _ ((hp _).1 b2.1); have e4 := b2.2 _ ((hp _).2 b1.1)
  omega
/-- The least of the first numbers, the first one in any case. -/
def mnK (zs : List Int) (k : Nat) : Int := mn (zs.take (max k 1))
def mxK (zs : List Int) (k : Nat) : Int := mx (zs.take (max k 1))
theorem mnK_zero (zs : List Int) : mnK zs 0 = zs.getD 0 0 ∧ mxK zs 0 = zs.getD 0 0 := ⟨Lib.minOf_one zs, Lib.maxOf_one zs⟩
theorem mnK_step {zs : List Int} {k : Nat} (h : k < zs.length) : mnK zs (k + 1) = min (mnK zs k) (zs.getD k 0) ∧ mxK zs (k + 1) = max (mxK zs k) (zs.getD k 0) := by
  by_cases h0 : k = 0
  · subst h0
    have e : mnK zs (0 + 1) = mnK zs 0 := rfl
    have e' : mxK zs (0 + 1) = mxK zs 0 := rfl
    rw [e, e', (mnK_zero zs).1, (mnK_zero zs).2]
    omega
  · have e : max k 1 = k := by omega
    have e2 : max (k + 1) 1 = k + 1 := by omega
    rw [mnK, mnK, mxK, mxK, e, e2]
    exact ⟨Lib.minOf_step zs k (by omega) h, Lib.maxOf_step zs k (by omega) h⟩
theorem mnK_all {zs : List Int} (h : 0 < zs.length) : mnK zs zs.length = mn zs ∧ mxK zs zs.length = mx zs := by
  have e : max zs.length 1 = zs.length := by omega
  rw [mnK, mxK, e, List.take_length]
  exact ⟨rfl, rfl⟩
theorem mnK_bd {zs : List Int} (hz : zs.all rdB = true) (h : 0 < zs.length) (k : Nat) : (-999 ≤ mnK zs k ∧ mnK zs k ≤ 10999) ∧ (-999 ≤ mxK zs k ∧ mxK zs k ≤ 10999) := by
  have hl : 0 < (zs.take (max k 1)).length := by rw [List.length_take]; omega
  exact ⟨rd_bd (List.all_eq_true.1 hz _ (List.mem_of_mem_take (mn_is hl).1)), rd_bd (List.all_eq_true.1 hz _ (List.mem_of_mem_take (mx_is hl).1))⟩
theorem mn_bd {zs : List Int} (hz : zs.all rdB = true) (h : 0 < zs.length) : (-999 ≤ mn zs ∧ mn zs ≤ 10999) ∧ (-999 ≤ mx zs ∧ mx zs ≤ 10999) := by
  have := mnK_bd hz h zs.length
  rw [(mnK_all h).1, (mnK_all h).2] at this
  exact this

def mid (zs : List Int) : Int := if rdsB zs then rq (mn zs + mx zs) 2 else 0
theorem mid_yes {zs : List Int} (h : rdsB zs = true) : mid zs = rq (mn zs + mx zs) 2 := by simp [mid, h]
theorem mid_no {zs : List Int} (h : rdsB zs = false) : mid zs = 0 := by simp [mid, h]
def MidPost (zs : List Int) (w : World) (e : Ending) (w' : World) : Prop := e = .returned (.tuple #[.int .i64 (mid zs), .bool (rdsB zs)]) ∧ Keep w w'

theorem min_lib (a : Option Addr) (c : Nat) (zs : List Int) (w : World) (h : Ls w a zs) (h0 : 0 < zs.length) (h1 : zs.length ≤ 24) :
    Calls Try.prog 45 #[.slice a zs.length c] w fun e w' => e = .returned (.int .i64 (mn zs)) ∧ w = w' := by
  obtain ⟨b, off, rfl, _, hc⟩ := h.all h0
  refine (Try.slices_Min_int b off zs.length c zs w h0 (Nat.le_refl _) (by omega) hc).mono fun e w' ⟨he, hw⟩ => ⟨?_, hw.symm⟩
  rw [he, List.take_length]; rfl
theorem max_lib (a : Option Addr) (c : Nat) (zs : List Int) (w : World) (h : Ls w a zs) (h0 : 0 < zs.length) (h1 : zs.length ≤ 24) :
    Calls Try.prog 46 #[.slice a zs.length c] w fun e w' => e = .returned (.int .i64 (mx zs)) ∧ w = w' := by
  obtain ⟨b, off, rfl, _, hc⟩ := h.all h0
  refine (Try.slices_Max_int b off zs.length c zs w h0 (Nat.le_refl _) (by omega) hc).mono fun e w' ⟨he, hw⟩ => ⟨?_, hw.symm⟩
  rw [he, List.take_length]; rfl
set_option maxHeartbeats 1000000 in
theorem mid_impl (a : Option Addr) (c : Nat) (zs : List Int) (w : World) (h : Ls w a zs) (hm : zs.length ≤ 4611686018427387904) :
    Calls Try.prog 27 #[.slice a zs.length c] w (MidPost zs w) := by
  rcases Bool.eq_false_or_eq_true (rdsB zs) with h1 | h1
  · obtain ⟨hall, l1, l2⟩ := rds_facts h1
    obtain ⟨⟨b0, b1⟩, b2, b3⟩ := mn_bd hall l1
    have HV : Hid (mid zs = rq (mn zs + mx zs) 2 ∧ rdsB zs = true) := Lib.hid ⟨mid_yes h1, h1⟩
    have H1 := Lib.hid h1
    clear hall h1
    go_enter Try.func27, Try.ntmps27
    go_wp2_with fail
    refine (rds_impl _ _ zs _ h hm).mono ?_
    rintro e w' ⟨he, rfl⟩
    rw [H1.out] at he
    subst he
    go_wp2_with fail
    refine (keep_any _).mono ?_
    rintro e w1 ⟨T, M, rfl, hT, hM, hB, hK⟩
    go_wp2_with fail
    refine (min_lib _ _ zs _ (h.keep hK) l1 l2).mono ?_
    rintro e w' ⟨rfl, rfl⟩
    go_wp2_with fail
    refine (take_any (mn zs) 1 T M 0 0 _ hB (by omega) (by omega) (by omega) (by omega) (by omega) (by omega) (by omega) (by omega) (by omega) (by omega)).mono ?_
    rintro e w2 ⟨rfl, hB2, hO2⟩
    have hK2 := hO2 _ hK hT hM
    go_wp2_with fail
    refine (max_lib _ _ zs _ (h.keep hK2) l1 l2).mono ?_
    rintro e w' ⟨rfl, rfl⟩
    go_wp2_with fail
    refine (take_any (mx zs) 1 T M _ _ _ hB2 (by omega) (by omega) (by omega) (by omega) (by omega) (by omega) (by omega) (by omega) (by omega) (by omega)).mono ?_
    rintro e w3 ⟨rfl, hB3, hO3⟩
    have hK3 := hO3 _ hK2 hT hM
    go_wp2_with fail
    refine (mean_any T M _ _ _ hB3 (by omega) (by omega) (by omega) (by omega)).mono ?_
    rintro e w' ⟨rfl, rfl⟩
    go_wp2
    go_ret2
    exact ⟨ret2 HV.out.1.symm HV.out.2.symm, hK3⟩
  · have H := Lib.hid h1
    go_enter Try.func27, Try.ntmps27
    go_wp2_with (go_at_call 43; refine (rds_impl _ _ zs _ h hm).mono ?_; rintro e w' ⟨he, rfl⟩; rw [h1] at he; subst he)
    go_ret2
    exact ⟨ret2 (mid_no H.out).symm H.out.symm, Keep.refl _⟩
set_option maxHeartbeats 1000000 in
theorem mid_spec (a : Option Addr) (c : Nat) (zs : List Int) (w : World) (h : Ls w a zs) (hm : zs.length ≤ 4611686018427387904) :
    Calls Try.prog 28 #[.slice a zs.length c] w (MidPost zs w) := by
  rcases Bool.eq_false_or_eq_true (rdsB zs) with h1 | h1
  · obtain ⟨hall, l1, l2⟩ := rds_facts h1
    have HV := Lib.hid (And.intro (mid_yes h1) h1)
    have HA := Lib.hid hall
    obtain ⟨b, off, rfl, hb, hc⟩ := h.all l1
    have c0 : w.cell? ⟨b, off, none⟩ = some (.int .i64 (zs.getD 0 0)) := by simpa using hc 0 l1
    have HC := Lib.hid hc
    have HZ := Lib.hid (mnK_zero zs)
    clear hall hc
    generalize zs.getD 0 0 = z at c0 HZ
    go_enter Try.func28, Try.ntmps28
    go_wp2_with (go_at_call 42; refine (rds_spec _ _ zs _ h hm).mono ?_; rintro e w' ⟨he, rfl⟩; rw [h1] at he; subst he)
    go_loop [4, 5, 6] (fun s t i => ∃ k : Nat, k ≤ zs.length ∧ i = .int .i64 k ∧ s = .int .i64 (mnK zs k) ∧ t = .int .i64 (mxK zs k)) (fun _ _ i => zs.length - (intOf i).toNat)
    case atStart => exact ⟨0, by omega, rfl, by rw [HZ.out.1], by rw [HZ.out.2]⟩
    case round =>
      obtain ⟨k, hk, rfl, rfl, rfl⟩ := hrel
      obtain ⟨⟨b0, b1⟩, b2, b3⟩ := mnK_bd HA.out l1 k
      by_cases hlt : k < zs.length
      · have cz := HC.out k hlt
        have HS := Lib.hid (mnK_step hlt)
        generalize zs.getD k 0 = x at cz HS
        generalize mnK zs k = s at b0 b1 HS
        generalize mxK zs k = t at b2 b3 HS
        go_wp2
        go_round
        case rel => exact ⟨k + 1, by omega, by go_num, by rw [HS.out.1], by rw [HS.out.2]⟩
        case measure => simp [intOf]; omega
      · obtain rfl : k = zs.length := by omega
        have HE := Lib.hid (mnK_all l1)
        generalize mnK zs zs.length = s at b0 b1 HE
        generalize mxK zs zs.length = t at b2 b3 HE
        go_wp2_with (go_at_call 40; refine (l4r_any (s + t) 2 _ (by omega) (by omega) (by omega) (by omega)).mono ?_; rintro e w' ⟨rfl, rfl⟩)
        go_ret2
        exact ⟨ret2 (by rw [HV.out.1, ← HE.out.1, ← HE.out.2]) HV.out.2.symm, Keep.refl _⟩
  · have H := Lib.hid h1
    go_enter Try.func28, Try.ntmps28
    go_wp2_with (go_at_call 42; refine (rds_spec _ _ zs _ h hm).mono ?_; rintro e w' ⟨he, rfl⟩; rw [h1] at he; subst he)
    go_ret2
    exact ⟨ret2 (mid_no H.out).symm H.out.symm, Keep.refl _⟩
end Go.Proofs.Ytkapnbfjpglblaa
