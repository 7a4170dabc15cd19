/- Normals: the program and the model answer 'meV', 'exLo', 'dgV', 'rkV'. -/
import Derived.Test.YtdccpdclpidnbaaTa
import Derived.Test.YtdccpdclpidnbaaShelf
import Derived.Test.YtdccpdclpidnbaaMd
import Derived.Test.YtdccpdclpidnbaaHt
import Derived.LoopTactic
import Derived.IntWalk
namespace Go.Proofs.Ytdccpdclpidnbaa
open Go.RowKit
set_option linter.unusedVariables false

theorem foldl_minE (zs : List Int) : ∀ c : Int, (zs.foldl min c ≤ c ∧ ∀ x ∈ zs, zs.foldl min c ≤ x) ∧ (zs.foldl min c = c ∨ zs.foldl min c ∈ zs) := by
  induction zs with
  | nil => intro c; simp
  | cons y r ih =>
    intro c
    obtain ⟨⟨h1, h2⟩, h3⟩ := ih (min c y)
    simp only [List.foldl_cons, List.mem_cons]
    refine ⟨⟨by omega, ?_⟩, ?_⟩
    · rintro x (rfl | hx)
      · omega
      · exact h2 x hx
    · rcases h3 with h3 | h3
      · rw [h3]
        by_cases hc : c ≤ y
        · left; omega
        · right; left; omega
      · exact .inr (.inr h3)
theorem foldl_maxE (zs : List Int) : ∀ c : Int, (c ≤ zs.foldl max c ∧ ∀ x ∈ zs, x ≤ zs.foldl max c) ∧ (zs.foldl max c = c ∨ zs.foldl max c ∈ zs) := by
  induction zs with
  | nil => intro c; simp
  | cons y r ih =>
    intro c
    obtain ⟨⟨h1, h2⟩, h3⟩ := ih (max c y)
    simp only [List.foldl_cons, List.mem_cons]
    refine ⟨⟨by omega, ?_⟩, ?_⟩
    · rintro x (rfl | hx)
      · omega
      · exact h2 x hx
    · rcases h3 with h3 | h3
      · rw [h3]
        by_cases hc : y ≤ c
        · left; omega
        · right; left; omega
      · exact .inr (.inr h3)
theorem mn_isE {zs : List Int} (h : 0 < zs.length) : Lib.minOf zs ∈ zs ∧ ∀ x ∈ zs, Lib.minOf zs ≤ x := by
  cases zs with
  | nil => simp at h
  | cons y r =>
    obtain ⟨⟨h1, h2⟩, h3⟩ := foldl_minE (y :: r) y
    refine ⟨?_, h2⟩
    rcases h3 with h3 | h3
    · show (y :: r).foldl min y ∈ _
      rw [h3]; exact List.mem_cons_self
    · exact h3
theorem mx_isE {zs : List Int} (h : 0 < zs.length) : Lib.maxOf zs ∈ zs ∧ ∀ x ∈ zs, x ≤ Lib.maxOf zs := by
  cases zs with
  | nil => simp at h
  | cons y r =>
    obtain ⟨⟨h1, h2⟩, h3⟩ := foldl_maxE (y :: r) y
    refine ⟨?_, h2⟩
    rcases h3 with h3 | h3
    · show (y :: r).foldl max y ∈ _
      rw [h3]; exact List.mem_cons_self
    · exact h3
theorem knl_takeE (zs : List Int) {k : Nat} (h : k < zs.length) : knl (zs.take (k + 1)) = knl (zs.take k) ++ knl [zs.getD k 0] := by
  rw [List.take_succ_eq_append_getElem h, knl, knl, knl, List.filter_append]
  simp [List.getD_eq_getElem?_getD, h]
theorem sk_len {zs : List Int} (h : sqB zs = true) : sk zs = ((knl zs).length : Int) := by rw [sk_yes h, knN_all]
set_option maxRecDepth 100000 in
set_option maxHeartbeats 1000000 in
theorem me_impl (a : Option Addr) (cap : Nat) (zs : List Int) (gp : Int) (w : World) (h : Ls w a zs) (hm : zs.length ≤ 1048576) :
    Calls Try.prog 19 #[.slice a zs.length cap, .int .i64 gp] w fun e w' => e = .returned (.tuple #[.int .i64 (meV zs gp), .bool (meB zs gp)]) ∧ Keep w w' := by
  have HN0 : ∀ hb : meB zs gp = false, Ending.returned (.tuple #[.int .i64 0, .bool false]) = .returned (.tuple #[.int .i64 (meV zs gp), .bool (meB zs gp)]) := fun hb => by rw [meV_no hb, hb]
  have HN := Lib.hid HN0
  clear HN0
  go_enter Try.func19, Try.ntmps19
  go_wp2_with fail
  refine (sk_impl a cap zs w h (by omega)).mono ?_
  rintro e w1 ⟨rfl, rfl⟩
  rcases Bool.eq_false_or_eq_true (sqB zs) with hs | hs
  case' inr =>
    have HB := Lib.hid (meB_sq (g := gp) hs)
    rw [sk_no hs]
    go_wp2
    go_ret2
    exact ⟨HN.out HB.out, Keep.refl _⟩
  have hl := (sq_facts hs).2
  have hkl := knl_le zs
  rw [sk_len hs]
  by_cases h0 : (knl zs).length < 1
  · have HB := Lib.hid (meB_none (g := gp) (show (knl zs).length = 0 by omega))
    generalize knl zs = L at *
    have d : decide ((L.length : Int) < 1) = true := decide_eq_true (by omega)
    clear hs
    go_wp2
    go_ret2
    exact ⟨HN.out HB.out, Keep.refl _⟩
  by_cases hg : gp < (zs.length : Int) - ((knl zs).length : Int)
  · have HB := Lib.hid (meB_gaps hg)
    generalize knl zs = L at *
    have d : decide ((L.length : Int) < 1) = false := decide_eq_false (by omega)
    have d2 : decide (gp < (zs.length : Int) - (L.length : Int)) = true := decide_eq_true hg
    clear hs
    go_wp2
    go_ret2
    exact ⟨HN.out HB.out, Keep.refl _⟩
  have hb := meB_mk hs (show 0 < (knl zs).length by omega) (show (zs.length : Int) - ((knl zs).length : Int) ≤ gp by omega)
  have HB := Lib.hid hb
  have HR := Lib.hid (me_ro hb)
  have HT := Lib.hid (fun W (k : Keep w W) => ty_add a cap zs 0 W (h.keep k) hs (by omega) (by omega))
  clear hb hs
  have d : decide (((knl zs).length : Int) < 1) = false := decide_eq_false (by omega)
  have d2 : decide (gp < (zs.length : Int) - ((knl zs).length : Int)) = false := decide_eq_false (by omega)
  generalize isum (knl zs) = s at *
  generalize (knl zs).length = m at *
  go_wp2_with fail
  refine (HT.out _ (Keep.refl _)).mono ?_
  rintro e w2 ⟨rfl, k2⟩
  go_wp2_with fail
  refine (ro_impl s (m : Int) _).mono ?_
  rintro e w3 ⟨rfl, rfl⟩
  go_wp2
  go_ret2
  exact ⟨ret2 HR.out.2 (HR.out.1.trans HB.out.symm), k2⟩
set_option maxRecDepth 100000 in
set_option maxHeartbeats 1000000 in
theorem me_spec (a : Option Addr) (cap : Nat) (zs : List Int) (gp : Int) (w : World) (h : Ls w a zs) (hm : zs.length ≤ 1048576) :
    Calls Try.prog 20 #[.slice a zs.length cap, .int .i64 gp] w fun e w' => e = .returned (.tuple #[.int .i64 (meV zs gp), .bool (meB zs gp)]) ∧ Keep w w' := by
  have HN0 : ∀ hb : meB zs gp = false, Ending.returned (.tuple #[.int .i64 0, .bool false]) = .returned (.tuple #[.int .i64 (meV zs gp), .bool (meB zs gp)]) := fun hb => by rw [meV_no hb, hb]
  have HN := Lib.hid HN0
  clear HN0
  have HQ := Lib.hid (sqv_spec a cap zs w h (by omega))
  rcases Bool.eq_false_or_eq_true (sqB zs) with hs | hs
  case' inr =>
    have HB := Lib.hid (meB_sq (g := gp) hs)
    rw [hs] at HQ
    clear hs
    go_enter Try.func20, Try.ntmps20
    go_wp2_with fail
    refine HQ.out.mono ?_
    rintro e w1 ⟨rfl, rfl⟩
    go_wp2
    go_ret2
    exact ⟨HN.out HB.out, Keep.refl _⟩
  have hl := (sq_facts hs).2
  have hkl := knl_le zs
  have HK := Lib.hid (fun W (k : Keep w W) => sk_spec a cap zs W (h.keep k) (by omega))
  rw [sk_len hs] at HK
  rw [hs] at HQ
  by_cases hg : gp < (zs.length : Int) - ((knl zs).length : Int)
  · have HB := Lib.hid (meB_gaps hg)
    generalize knl zs = L at *
    have d2 : decide (gp < (zs.length : Int) - (L.length : Int)) = true := decide_eq_true hg
    clear hs
    go_enter Try.func20, Try.ntmps20
    go_wp2_with fail
    refine HQ.out.mono ?_
    rintro e w1 ⟨rfl, rfl⟩
    go_wp2_with fail
    refine (HK.out _ (Keep.refl _)).mono ?_
    rintro e w1 ⟨rfl, rfl⟩
    go_wp2
    go_ret2
    exact ⟨HN.out HB.out, Keep.refl _⟩
  have d2 : decide (gp < (zs.length : Int) - ((knl zs).length : Int)) = false := decide_eq_false (by omega)
  by_cases h0 : (knl zs).length < 1
  · have HB := Lib.hid (meB_none (g := gp) (show (knl zs).length = 0 by omega))
    generalize knl zs = L at *
    have d : ((L.length : Int) == 0) = true := beq_iff_eq.2 (by omega)
    clear hs
    go_enter Try.func20, Try.ntmps20
    go_wp2_with fail
    refine HQ.out.mono ?_
    rintro e w1 ⟨rfl, rfl⟩
    go_wp2_with fail
    refine (HK.out _ (Keep.refl _)).mono ?_
    rintro e w1 ⟨rfl, rfl⟩
    go_wp2_with fail
    refine (HK.out _ (Keep.refl _)).mono ?_
    rintro e w1 ⟨rfl, rfl⟩
    go_wp2
    go_ret2
    exact ⟨HN.out HB.out, Keep.refl _⟩
  have hb := meB_mk hs (show 0 < (knl zs).length by omega) (show (zs.length : Int) - ((knl zs).length : Int) ≤ gp by omega)
  have HB := Lib.hid hb
  have HV := Lib.hid (meV_yes hb)
  have HKn := Lib.hid (fun W (k : Keep w W) => known2_any a cap zs W (h.keep k) hm)
  have HBd := Lib.hid (knl_bd hs)
  have HT : Hid (∀ k, k ≤ (knl zs).length → -300000 ≤ isum ((knl zs).take k) ∧ isum ((knl zs).take k) ≤ 300000) := Lib.hid (fun k hk => by
    have := isum_bd (L := (knl zs).take k) fun x hx => by have := HBd.out x (List.mem_of_mem_take hx); omega
    rw [List.length_take, Nat.min_eq_left hk] at this
    omega)
  clear hb hs
  have d : (((knl zs).length : Int) == 0) = false := beq_eq_false_iff_ne.2 (by omega)
  generalize meV zs gp = v at *
  generalize knl zs = L at *
  go_enter Try.func20, Try.ntmps20
  go_wp2_with fail
  refine HQ.out.mono ?_
  rintro e w1 ⟨rfl, rfl⟩
  go_wp2_with fail
  refine (HK.out _ (Keep.refl _)).mono ?_
  rintro e w1 ⟨rfl, rfl⟩
  go_wp2_with fail
  refine (HK.out _ (Keep.refl _)).mono ?_
  rintro e w1 ⟨rfl, rfl⟩
  go_wp2_with fail
  refine (HKn.out _ (Keep.refl _)).mono ?_
  rintro e w2 ⟨g, c, rfl, hc, hW, hg2, hl2, k2⟩
  clear HKn HK HQ
  go_wp2_with fail
  go_loop [6, 8] (fun s i => ∃ k : Nat, k ≤ L.length ∧ i = .int .i64 k ∧ s = .int .i64 (isum (L.take k))) (fun _ i => L.length - (intOf i).toNat)
  case atStart => exact ⟨0, by omega, rfl, rfl⟩
  case round =>
    obtain ⟨k, hk, rfl, rfl⟩ := hrel
    by_cases hlt : k < L.length
    · obtain ⟨cz, _⟩ := hW k hlt
      have HS := Lib.hid (isum_take hlt)
      obtain ⟨x0, x1⟩ := HBd.out _ (getD_mem hlt)
      obtain ⟨t0, t1⟩ := HT.out k hk
      have k0 : (0 : Int) ≤ (k : Int) := by omega
      have kz : (k : Int) < (L.length : Int) := by omega
      generalize L.getD k 0 = x at *
      generalize isum (L.take k) = s at *
      go_wp2
      go_round
      case rel => exact ⟨k + 1, by omega, by go_num, by rw [HS.out]⟩
      case measure => simp [intOf]; omega
    · obtain rfl : k = L.length := by omega
      obtain ⟨t0, t1⟩ := HT.out L.length (Nat.le_refl _)
      rw [List.take_length] at *
      go_wp2_with fail
      refine (l4r_any (isum L) (L.length : Int) _ (by omega) (by omega) (by omega) (by omega)).mono ?_
      rintro e w3 ⟨rfl, rfl⟩
      go_wp2
      go_ret2
      exact ⟨ret2 HV.out.symm HB.out.symm, k2⟩
theorem min_libE (a : Option Addr) (c : Nat) (zs : List Int) (w : World) (h : Ls w a zs) (h0 : 0 < zs.length) (h1 : zs.length ≤ 24) :
    Calls Try.prog 66 #[.slice a zs.length c] w fun e w' => (∃ m, e = .returned (.int .i64 m) ∧ m ∈ zs ∧ ∀ x ∈ zs, m ≤ x) ∧ w = w' := by
  obtain ⟨b, off, rfl, _, hc⟩ := h.all h0
  refine (Try.slices_Min_int b off zs.length c zs w h0 (Nat.le_refl _) (by omega) hc).mono fun e w' ⟨he, hw⟩ => ⟨⟨_, he, ?_⟩, hw.symm⟩
  rw [List.take_length]; exact mn_isE h0
theorem max_libE (a : Option Addr) (c : Nat) (zs : List Int) (w : World) (h : Ls w a zs) (h0 : 0 < zs.length) (h1 : zs.length ≤ 24) :
    Calls Try.prog 67 #[.slice a zs.length c] w fun e w' => (∃ m, e = .returned (.int .i64 m) ∧ m ∈ zs ∧ ∀ x ∈ zs, x ≤ m) ∧ w = w' := by
  obtain ⟨b, off, rfl, _, hc⟩ := h.all h0
  refine (Try.slices_Max_int b off zs.length c zs w h0 (Nat.le_refl _) (by omega) hc).mono fun e w' ⟨he, hw⟩ => ⟨⟨_, he, ?_⟩, hw.symm⟩
  rw [List.take_length]; exact mx_isE h0
/-- The first place of a number that is there. -/
theorem first_at {zs : List Int} {x : Int} (h : x ∈ zs) : ∃ i, i < zs.length ∧ zs.getD i 0 = x ∧ ∀ j, j < i → zs.getD j 0 ≠ x := by
  induction zs with
  | nil => cases h
  | cons y r ih =>
    by_cases e : y = x
    · exact ⟨0, by simp, by simpa using e, fun j hj => by omega⟩
    · rcases List.mem_cons.1 h with h | h
      · exact absurd h.symm e
      · obtain ⟨i, h1, h2, h3⟩ := ih h
        refine ⟨i + 1, by simp; omega, by simpa using h2, fun j hj => ?_⟩
        cases j with
        | zero => simpa using e
        | succ j => have := h3 j (by omega); simpa using this
theorem index_libE (a : Option Addr) (c : Nat) (zs : List Int) (x : Int) (w : World) (h : Ls w a zs) (h1 : zs.length ≤ 24) {i : Nat} (hi : i < zs.length) (hx : zs.getD i 0 = x) (hn : ∀ j, j < i → zs.getD j 0 ≠ x) :
    Calls Try.prog 65 #[.slice a zs.length c, .int .i64 x] w fun e w' => e = .returned (.int .i64 (i : Int)) ∧ w = w' := by
  obtain ⟨b, off, rfl, _, hc⟩ := h.all (by omega)
  refine (Try.slices_Index_int b off zs.length c zs x w (Nat.le_refl _) (by omega) hc).mono fun e w' ⟨he, hw⟩ => ⟨?_, hw.symm⟩
  rw [he, Lib.idxOf_hit zs zs.length i x hi (Nat.le_refl _) hx hn]
theorem ret3E {a b a' b' : Int} {x x' : Bool} (h1 : a = a') (h2 : b = b') (h3 : x = x') :
    Ending.returned (.tuple #[.int .i64 a, .int .i64 b, .bool x]) = .returned (.tuple #[.int .i64 a', .int .i64 b', .bool x']) := by rw [h1, h2, h3]
set_option maxRecDepth 100000 in
set_option maxHeartbeats 1000000 in
theorem ex_impl (a : Option Addr) (cap : Nat) (zs : List Int) (w : World) (h : Ls w a zs) (hm : zs.length ≤ 1048576) :
    Calls Try.prog 31 #[.slice a zs.length cap] w fun e w' => e = .returned (.tuple #[.int .i64 (exA zs), .int .i64 (exZ zs), .bool (moB zs)]) ∧ Keep w w' := by
  have HN0 : ∀ hb : moB zs = false, Ending.returned (.tuple #[.int .i64 0, .int .i64 0, .bool false]) = .returned (.tuple #[.int .i64 (exA zs), .int .i64 (exZ zs), .bool (moB zs)]) := fun hb => by rw [(ex_no hb).1, (ex_no hb).2, hb]
  have HN := Lib.hid HN0
  clear HN0
  go_enter Try.func31, Try.ntmps31
  go_wp2_with fail
  refine (sk_impl a cap zs w h (by omega)).mono ?_
  rintro e w1 ⟨rfl, rfl⟩
  rcases Bool.eq_false_or_eq_true (sqB zs) with hs | hs
  case' inr =>
    have HB := Lib.hid (show moB zs = false by simp [moB, hs])
    rw [sk_no hs]
    go_wp2
    go_ret3
    exact ⟨HN.out HB.out, Keep.refl _⟩
  have hl := (sq_facts hs).2
  have hkl := knl_le zs
  rw [sk_len hs]
  by_cases h0 : (knl zs).length < 1
  · have HB := Lib.hid (show moB zs = false by rw [moB, hs, Bool.true_and]; exact decide_eq_false (by omega))
    generalize knl zs = L at *
    have d : decide ((L.length : Int) < 1) = true := decide_eq_true (by omega)
    clear hs
    go_wp2
    go_ret3
    exact ⟨HN.out HB.out, Keep.refl _⟩
  have hb : moB zs = true := by rw [moB, hs, Bool.true_and]; exact decide_eq_true (by omega)
  have HB := Lib.hid hb
  have HE := Lib.hid (ex_yes hb)
  have HLo := Lib.hid (ex_lo hb).1
  have HHi := Lib.hid (ex_hi hb).1
  have HF := Lib.hid (fun (x : Int) (hx : x ∈ knl zs) => first_at (List.mem_filter.1 hx).1)
  have HLf := Lib.hid (fun (i : Nat) (m : Int) (h0 : ∀ x ∈ knl zs, m ≤ x) (hm : m ∈ knl zs) (hi : i < zs.length) (h1 : zs.getD i 0 = m) (h2 : ∀ j, j < i → zs.getD j 0 ≠ m) => (lo_first h0 hm hi h1 h2).one HLo.out)
  have HHf := Lib.hid (fun (i : Nat) (m : Int) (h0 : ∀ x ∈ knl zs, x ≤ m) (hm : m ∈ knl zs) (hi : i < zs.length) (h1 : zs.getD i 0 = m) (h2 : ∀ j, j < i → zs.getD j 0 ≠ m) => (hi_first h0 hm hi h1 h2).one HHi.out)
  have HK := Lib.hid (fun W (k : Keep w W) => kvs_any a cap zs W (h.keep k) (by omega) (by omega))
  have HLs := Lib.hid h
  clear hs hb HLo HHi h
  generalize exLo zs = lo at *
  generalize exHi zs = hi at *
  generalize knl zs = L at *
  have d : decide ((L.length : Int) < 1) = false := decide_eq_false (by omega)
  go_wp2_with fail
  refine (HK.out _ (Keep.refl _)).mono ?_
  rintro e w2 ⟨g, c, rfl, hc, hW, hg, hl2, k2⟩
  clear HK
  have HW2 := Lib.hid hW.ls
  clear hW
  go_wp2_with fail
  refine (min_libE _ c L _ HW2.out (by omega) (by omega)).mono ?_
  rintro e w3 ⟨⟨m, rfl, hm1, hm2⟩, rfl⟩
  obtain ⟨i, hi1, hi2, hi3⟩ := HF.out m hm1
  have ei := HLf.out i m hm2 hm1 hi1 hi2 hi3
  have HIx := Lib.hid (fun W (k : Keep w W) => index_libE a cap zs m W (HLs.out.keep k) (by omega) hi1 hi2 hi3)
  clear hm1 hm2 hi2 hi3
  go_wp2_with fail
  refine (HIx.out _ k2).mono ?_
  rintro e w4 ⟨rfl, rfl⟩
  clear HIx
  go_wp2_with fail
  refine (max_libE _ c L _ HW2.out (by omega) (by omega)).mono ?_
  rintro e w5 ⟨⟨m', rfl, hm1, hm2⟩, rfl⟩
  obtain ⟨i', hj1, hj2, hj3⟩ := HF.out m' hm1
  have ej := HHf.out i' m' hm2 hm1 hj1 hj2 hj3
  have HIx := Lib.hid (fun W (k : Keep w W) => index_libE a cap zs m' W (HLs.out.keep k) (by omega) hj1 hj2 hj3)
  clear hm1 hm2 hj2 hj3
  go_wp2_with fail
  refine (HIx.out _ k2).mono ?_
  rintro e w6 ⟨rfl, rfl⟩
  go_wp2
  go_ret3
  exact ⟨ret3E (by have := HE.out.1; omega) (by have := HE.out.2; omega) HB.out.symm, k2⟩
set_option maxRecDepth 100000 in
set_option maxHeartbeats 1000000 in
theorem ex_spec (a : Option Addr) (cap : Nat) (zs : List Int) (w : World) (h : Ls w a zs) (hm : zs.length ≤ 1048576) :
    Calls Try.prog 32 #[.slice a zs.length cap] w fun e w' => e = .returned (.tuple #[.int .i64 (exA zs), .int .i64 (exZ zs), .bool (moB zs)]) ∧ Keep w w' := by
  have HN0 : ∀ hb : moB zs = false, Ending.returned (.tuple #[.int .i64 0, .int .i64 0, .bool false]) = .returned (.tuple #[.int .i64 (exA zs), .int .i64 (exZ zs), .bool (moB zs)]) := fun hb => by rw [(ex_no hb).1, (ex_no hb).2, hb]
  have HN := Lib.hid HN0
  clear HN0
  have HQ := Lib.hid (sqv_spec a cap zs w h (by omega))
  rcases Bool.eq_false_or_eq_true (sqB zs) with hs | hs
  case' inr =>
    have HB := Lib.hid (show moB zs = false by simp [moB, hs])
    rw [hs] at HQ
    clear hs
    go_enter Try.func32, Try.ntmps32
    go_wp2_with fail
    refine HQ.out.mono ?_
    rintro e w1 ⟨rfl, rfl⟩
    go_wp2
    go_ret3
    exact ⟨HN.out HB.out, Keep.refl _⟩
  have hl := (sq_facts hs).2
  have hkl := knl_le zs
  have HK := Lib.hid (sk_spec a cap zs w h (by omega))
  rw [sk_len hs] at HK
  rw [hs] at HQ
  by_cases h0 : (knl zs).length < 1
  · have HB := Lib.hid (show moB zs = false by rw [moB, hs, Bool.true_and]; exact decide_eq_false (by omega))
    generalize knl zs = L at *
    have d : ((L.length : Int) == 0) = true := beq_iff_eq.2 (by omega)
    clear hs
    go_enter Try.func32, Try.ntmps32
    go_wp2_with fail
    refine HQ.out.mono ?_
    rintro e w1 ⟨rfl, rfl⟩
    go_wp2_with fail
    refine HK.out.mono ?_
    rintro e w1 ⟨rfl, rfl⟩
    go_wp2
    go_ret3
    exact ⟨HN.out HB.out, Keep.refl _⟩
  have hb : moB zs = true := by rw [moB, hs, Bool.true_and]; exact decide_eq_true (by omega)
  have HB := Lib.hid hb
  have HE := Lib.hid (ex_yes hb)
  have HLo := Lib.hid (ex_lo hb).2
  have HHi := Lib.hid (ex_hi hb).2
  have d : (((knl zs).length : Int) == 0) = false := beq_eq_false_iff_ne.2 (by omega)
  clear hs hb
  generalize exA zs = ea at *
  generalize exZ zs = ez at *
  generalize moB zs = mb at *
  generalize exLo zs = lo at *
  generalize exHi zs = hi at *
  generalize (knl zs).length = m at *
  go_enter Try.func32, Try.ntmps32
  go_wp2_with fail
  refine HQ.out.mono ?_
  rintro e w1 ⟨rfl, rfl⟩
  go_wp2_with fail
  refine HK.out.mono ?_
  rintro e w1 ⟨rfl, rfl⟩
  clear HK HQ
  go_wp2_with fail
  go_loopw [5, 6, 7] (fun p q i wr => ∃ k nn : Nat, k ≤ zs.length ∧ i = .int .i64 k ∧ p = .int .i64 (loI zs k) ∧ q = .int .i64 (hiI zs k) ∧ wr = w.drewN nn) (fun _ _ i _ => zs.length - (intOf i).toNat)
  case atStart => exact ⟨0, 0, by omega, rfl, rfl, rfl, rfl⟩
  case round =>
    obtain ⟨k, nn, hk, rfl, rfl, rfl, rfl⟩ := hrel
    by_cases hlt : k < zs.length
    · obtain ⟨b, off, rfl, hb, hcall⟩ := h.all (by omega)
      have cz := hcall k hlt
      have hS1 : loI zs (k + 1) = if zs.getD k 0 ≠ -9999 ∧ (loI zs k < 0 ∨ zs.getD k 0 < zs.getD (loI zs k).toNat 0) then (k : Int) else loI zs k := rfl
      have hS2 : hiI zs (k + 1) = if zs.getD k 0 ≠ -9999 ∧ (hiI zs k < 0 ∨ zs.getD (hiI zs k).toNat 0 < zs.getD k 0) then (k : Int) else hiI zs k := rfl
      have k0 : (0 : Int) ≤ (k : Int) := by omega
      have kz : (k : Int) < (zs.length : Int) := by omega
      by_cases hx : zs.getD k 0 = -9999
      · have HS1 : Hid (loI zs (k + 1) = loI zs k) := Lib.hid (by rw [hS1, if_neg (fun e => e.1 hx)])
        have HS2 : Hid (hiI zs (k + 1) = hiI zs k) := Lib.hid (by rw [hS2, if_neg (fun e => e.1 hx)])
        rw [hx] at cz
        clear hx hS1 hS2 hcall
        go_wp2_with fail
        go_roundw
        case rel => exact ⟨k + 1, _, by omega, by go_num, by rw [HS1.out], by rw [HS2.out], rfl⟩
        case measure => simp [intOf]; omega
      · have hx2 : (zs.getD k 0 != -9999) = true := bne_iff_ne.2 hx
        rcases lo_inv zs k with ⟨l1, -⟩ | ⟨i, i1, l1, -⟩ <;> rcases hi_inv zs k with ⟨l2, -⟩ | ⟨j, j1, l2, -⟩
        · have HS1 : Hid (loI zs (k + 1) = k) := Lib.hid (by rw [hS1, if_pos ⟨hx, .inl (by omega)⟩])
          have HS2 : Hid (hiI zs (k + 1) = k) := Lib.hid (by rw [hS2, if_pos ⟨hx, .inl (by omega)⟩])
          rw [l1, l2]
          clear hS1 hS2 hcall l1 l2 hx
          generalize zs.getD k 0 = x at *
          go_wp2_with fail
          go_quiet (fail)
          go_wp2_with fail
          go_quiet (fail)
          go_wp2
          go_roundw
          case rel => exact ⟨k + 1, _, by omega, by go_num, by rw [HS1.out], by rw [HS2.out], rfl⟩
          case measure => simp [intOf]; omega
        · exfalso
          have := hi_lo zs k
          omega
        · exfalso
          have := hi_lo zs k
          omega
        · have ci := hcall i (by omega)
          have cj := hcall j (by omega)
          rw [l1, l2]
          rw [l1] at hS1
          rw [l2] at hS2
          rw [show ((i : Int)).toNat = i by omega] at hS1
          rw [show ((j : Int)).toNat = j by omega] at hS2
          have HS1 : Hid (loI zs (k + 1) = if zs.getD k 0 < zs.getD i 0 then (k : Int) else (i : Int)) := Lib.hid (by
            rw [hS1]
            by_cases e : zs.getD k 0 < zs.getD i 0
            · rw [if_pos e, if_pos ⟨hx, .inr e⟩]
            · rw [if_neg e, if_neg (by omega)])
          have HS2 : Hid (hiI zs (k + 1) = if zs.getD j 0 < zs.getD k 0 then (k : Int) else (j : Int)) := Lib.hid (by
            rw [hS2]
            by_cases e : zs.getD j 0 < zs.getD k 0
            · rw [if_pos e, if_pos ⟨hx, .inr e⟩]
            · rw [if_neg e, if_neg (by omega)])
          clear hS1 hS2 hcall l1 l2 hx
          have n1 : decide ((i : Int) < 0) = false := decide_eq_false (by omega)
          have n2 : decide ((j : Int) < 0) = false := decide_eq_false (by omega)
          generalize zs.getD k 0 = x at *
          generalize zs.getD i 0 = y at *
          generalize zs.getD j 0 = z at *
          by_cases e1 : x < y <;> by_cases e2 : z < x
          all_goals
            have d1 : decide (x < y) = true ∨ decide (x < y) = false := by by_cases e : x < y <;> simp [e]
            have d2 : decide (z < x) = true ∨ decide (z < x) = false := by by_cases e : z < x <;> simp [e]
            go_wp2_with fail
            go_quiet (fail)
            go_wp2_with fail
            go_quiet (fail)
            go_wp2
            go_roundw
            case rel => exact ⟨k + 1, _, by omega, by go_num, by rw [HS1.out]; first | rw [if_pos (by omega)] | rw [if_neg (by omega)], by rw [HS2.out]; first | rw [if_pos (by omega)] | rw [if_neg (by omega)], rfl⟩
            case measure => simp [intOf]; omega
    · obtain rfl : k = zs.length := by omega
      rw [HLo.out, HHi.out]
      go_wp2
      go_ret3
      exact ⟨ret3E HE.out.1.symm HE.out.2.symm HB.out.symm, (Keep.refl _).drewN _⟩
set_option maxRecDepth 100000 in
set_option maxHeartbeats 1000000 in
theorem dg_impl (a : Option Addr) (cap : Nat) (zs : List Int) (bs : Int) (w : World) (h : Ls w a zs) (hm : zs.length ≤ 1048576) :
    Calls Try.prog 36 #[.slice a zs.length cap, .int .i64 bs] w fun e w' => e = .returned (.int .i64 (dgV zs bs)) ∧ Keep w w' := by
  have HQ := Lib.hid (sqv_impl a cap zs w h (by omega))
  have HR := Lib.hid (fun W => rd_impl bs W)
  rcases Bool.eq_false_or_eq_true (sqB zs) with hs | hs
  case' inr =>
    have HN := Lib.hid (dgV_no (show dgB zs bs = false by rw [dgB, hs]; rfl))
    rw [hs] at HQ
    clear hs
    go_enter Try.func36, Try.ntmps36
    go_wp2_with fail
    refine HQ.out.mono ?_
    rintro e w1 ⟨rfl, rfl⟩
    go_wp2
    go_ret
    exact ⟨retI HN.out.symm, Keep.refl _⟩
  rw [hs] at HQ
  rcases Bool.eq_false_or_eq_true (rdB bs) with hr | hr
  case' inr =>
    have HN := Lib.hid (dgV_no (show dgB zs bs = false by rw [dgB, inB_no (rd_no hr), Bool.and_false]))
    rw [hr] at HR
    clear hs hr
    go_enter Try.func36, Try.ntmps36
    go_wp2_with fail
    refine HQ.out.mono ?_
    rintro e w1 ⟨rfl, rfl⟩
    go_wp2_with fail
    refine (HR.out _).mono ?_
    rintro e w1 ⟨rfl, rfl⟩
    go_wp2
    go_ret
    exact ⟨retI HN.out.symm, Keep.refl _⟩
  have hb := rd_bd hr
  have HY := Lib.hid (dgV_yes (show dgB zs bs = true by rw [dgB, hs, inB_yes hb]; rfl))
  have HT := Lib.hid (fun W (k : Keep w W) => ty_lack a cap zs bs W (h.keep k) hs (by omega) (by omega))
  rw [hr] at HR
  clear hs hr
  go_enter Try.func36, Try.ntmps36
  go_wp2_with fail
  refine HQ.out.mono ?_
  rintro e w1 ⟨rfl, rfl⟩
  go_wp2_with fail
  refine (HR.out _).mono ?_
  rintro e w1 ⟨rfl, rfl⟩
  go_wp2_with fail
  refine (HT.out _ (Keep.refl _)).mono ?_
  rintro e w2 ⟨rfl, k2⟩
  go_wp2
  go_ret
  exact ⟨retI HY.out.symm, k2⟩
set_option maxRecDepth 100000 in
set_option maxHeartbeats 1000000 in
theorem rk_impl (a : Option Addr) (cap : Nat) (zs : List Int) (dy : Int) (w : World) (h : Ls w a zs) (hm : zs.length ≤ 1048576) :
    Calls Try.prog 34 #[.slice a zs.length cap, .int .i64 dy] w fun e w' => e = .returned (.int .i64 (rkV zs dy)) ∧ Keep w w' := by
  have HQ := Lib.hid (sqv_impl a cap zs w h (by omega))
  rcases Bool.eq_false_or_eq_true (sqB zs) with hs | hs
  case' inr =>
    have HN := Lib.hid (rkV_no (show rkB zs dy = false by rw [rkB, hs]; rfl))
    rw [hs] at HQ
    clear hs
    go_enter Try.func34, Try.ntmps34
    go_wp2_with fail
    refine HQ.out.mono ?_
    rintro e w1 ⟨rfl, rfl⟩
    go_wp2
    go_ret
    exact ⟨retI HN.out.symm, Keep.refl _⟩
  rw [hs] at HQ
  by_cases hd0 : dy < 0
  · have HN := Lib.hid (rkV_no (show rkB zs dy = false by rw [rkB, inB_no (.inl hd0), Bool.false_and, Bool.and_false]))
    have d : decide (dy < 0) = true := decide_eq_true hd0
    clear hs
    go_enter Try.func34, Try.ntmps34
    go_wp2_with fail
    refine HQ.out.mono ?_
    rintro e w1 ⟨rfl, rfl⟩
    go_wp2
    go_ret
    exact ⟨retI HN.out.symm, Keep.refl _⟩
  have d : decide (dy < 0) = false := decide_eq_false hd0
  by_cases hd1 : (zs.length : Int) ≤ dy
  · have HN := Lib.hid (rkV_no (show rkB zs dy = false by rw [rkB, inB_no (by omega), Bool.false_and, Bool.and_false]))
    have d2 : decide ((zs.length : Int) ≤ dy) = true := decide_eq_true hd1
    clear hs
    go_enter Try.func34, Try.ntmps34
    go_wp2_with fail
    refine HQ.out.mono ?_
    rintro e w1 ⟨rfl, rfl⟩
    go_wp2
    go_ret
    exact ⟨retI HN.out.symm, Keep.refl _⟩
  have d2 : decide ((zs.length : Int) ≤ dy) = false := decide_eq_false hd1
  obtain ⟨n, rfl⟩ := Int.eq_ofNat_of_zero_le (show 0 ≤ dy by omega)
  have hn : n < zs.length := by omega
  obtain ⟨b, off, ha, hb, hc⟩ := h.at_ hn
  have HLs := Lib.hid h
  have en : ((n : Nat) : Int).toNat = n := by omega
  by_cases hx : zs.getD n 0 = -9999
  · have HN := Lib.hid (rkV_no (show rkB zs (n : Int) = false by rw [rkB, en, hx]; simp))
    rw [hx] at hc
    subst ha
    clear hs hx
    go_enter Try.func34, Try.ntmps34
    go_wp2_with fail
    refine HQ.out.mono ?_
    rintro e w1 ⟨rfl, rfl⟩
    go_wp2
    go_ret
    exact ⟨retI HN.out.symm, Keep.refl _⟩
  have hxe : (zs.getD n 0 == -9999) = false := beq_eq_false_iff_ne.2 hx
  have hbd := sq_at hs hn
  have HY := Lib.hid (rkV_yes (show rkB zs (n : Int) = true from rkB_mk hs (by omega) (by rw [en]; exact hx)))
  rw [en] at HY
  have HT := Lib.hid (fun W (k : Keep w W) => ty_less a cap zs (zs.getD n 0) W (HLs.out.keep k) hs (by omega) (by omega))
  clear hs HLs h
  subst ha
  generalize cLt (knl zs) (zs.getD n 0) = r at *
  generalize rkV zs (n : Int) = v at *
  generalize zs.getD n 0 = x at *
  go_enter Try.func34, Try.ntmps34
  go_wp2_with fail
  refine HQ.out.mono ?_
  rintro e w1 ⟨rfl, rfl⟩
  go_wp2_with fail
  refine (HT.out _ (Keep.refl _)).mono ?_
  rintro e w2 ⟨rfl, k2⟩
  go_wp2
  go_ret
  exact ⟨retI HY.out.symm, k2⟩
set_option maxRecDepth 100000 in
set_option maxHeartbeats 1000000 in
theorem dg_spec (a : Option Addr) (cap : Nat) (zs : List Int) (bs : Int) (w : World) (h : Ls w a zs) (hm : zs.length ≤ 1048576) :
    Calls Try.prog 37 #[.slice a zs.length cap, .int .i64 bs] w fun e w' => e = .returned (.int .i64 (dgV zs bs)) ∧ Keep w w' := by
  have HQ := Lib.hid (sqv_spec a cap zs w h (by omega))
  have HI := Lib.hid (fun W => l6In_any bs (-999) 10999 W)
  rcases Bool.eq_false_or_eq_true (sqB zs) with hs | hs
  case' inr =>
    have HN := Lib.hid (dgV_no (show dgB zs bs = false by rw [dgB, hs]; rfl))
    rw [hs] at HQ
    clear hs
    go_enter Try.func37, Try.ntmps37
    go_wp2_with fail
    refine HQ.out.mono ?_
    rintro e w1 ⟨rfl, rfl⟩
    go_wp2
    go_ret
    exact ⟨retI HN.out.symm, Keep.refl _⟩
  rw [hs] at HQ
  rcases inB_cases bs (-999) 10999 with ⟨hr, b0, b1⟩ | ⟨hr, b0⟩
  case' inr =>
    have HN := Lib.hid (dgV_no (show dgB zs bs = false by rw [dgB, hr, Bool.and_false]))
    rw [hr] at HI
    clear hs hr b0
    go_enter Try.func37, Try.ntmps37
    go_wp2_with fail
    refine HQ.out.mono ?_
    rintro e w1 ⟨rfl, rfl⟩
    go_wp2_with fail
    refine (HI.out _).mono ?_
    rintro e w1 ⟨rfl, rfl⟩
    go_wp2
    go_ret
    exact ⟨retI HN.out.symm, Keep.refl _⟩
  have HY := Lib.hid (dgV_yes (show dgB zs bs = true by rw [dgB, hs, hr]; rfl))
  have hl := (sq_facts hs).2
  have HAt := Lib.hid (fun (k : Nat) (hk : k < zs.length) => sq_at hs hk)
  have HT : Hid (∀ k, k ≤ zs.length → 0 ≤ dgS bs (knl (zs.take k)) ∧ dgS bs (knl (zs.take k)) ≤ 300000) := Lib.hid (fun k hk => by
    have h1 := dgS_bd (b := bs) (by omega) (L := knl (zs.take k)) fun x hx => by
      have h2 := (List.mem_filter.1 hx).1
      exact knl_bd hs x (List.mem_filter.2 ⟨List.mem_of_mem_take h2, (List.mem_filter.1 hx).2⟩)
    have h2 := knl_le (zs.take k)
    rw [List.length_take] at h2
    omega)
  rw [hr] at HI
  clear hs hr
  generalize dgV zs bs = v at *
  go_enter Try.func37, Try.ntmps37
  go_wp2_with fail
  refine HQ.out.mono ?_
  rintro e w1 ⟨rfl, rfl⟩
  go_wp2_with fail
  refine (HI.out _).mono ?_
  rintro e w1 ⟨rfl, rfl⟩
  clear HQ HI
  go_wp2_with fail
  go_loop [5, 6] (fun s i => ∃ k : Nat, k ≤ zs.length ∧ i = .int .i64 k ∧ s = .int .i64 (dgS bs (knl (zs.take k)))) (fun _ i => zs.length - (intOf i).toNat)
  case atStart => exact ⟨0, by omega, rfl, rfl⟩
  case round =>
    obtain ⟨k, hk, rfl, rfl⟩ := hrel
    by_cases hlt : k < zs.length
    · obtain ⟨b, off, rfl, hb, cz⟩ := h.at_ hlt
      have hS := knl_takeE zs hlt
      have hb := HAt.out k hlt
      obtain ⟨t0, t1⟩ := HT.out k hk
      have k0 : (0 : Int) ≤ (k : Int) := by omega
      have kz : (k : Int) < (zs.length : Int) := by omega
      by_cases hx : zs.getD k 0 = -9999
      · have HS : Hid (dgS bs (knl (zs.take (k + 1))) = dgS bs (knl (zs.take k))) := Lib.hid (by rw [hS, hx]; simp [knl])
        rw [hx] at cz
        clear hx hS
        generalize dgS bs (knl (zs.take k)) = s at *
        go_wp2_with fail
        go_round
        case rel => exact ⟨k + 1, by omega, by go_num, by rw [HS.out]⟩
        case measure => simp [intOf]; omega
      · have hx2 : (zs.getD k 0 != -9999) = true := bne_iff_ne.2 hx
        have HS : Hid (dgS bs (knl (zs.take (k + 1))) = dgS bs (knl (zs.take k)) + max (bs - zs.getD k 0) 0) := Lib.hid (by
          rw [hS, dgS_app]; simp only [knl, List.filter_cons, hx2, List.filter_nil, if_true]; rw [dgS_one])
        clear hx hS
        generalize zs.getD k 0 = x at *
        obtain ⟨s, hs⟩ : ∃ s, dgS bs (knl (zs.take k)) = s := ⟨_, rfl⟩
        rw [hs] at HS t0 t1 ⊢
        clear hs
        go_wp2_with fail
        go_round
        case rel => exact ⟨k + 1, by omega, by go_num, by rw [HS.out]⟩
        case measure => simp [intOf]; omega
    · obtain rfl : k = zs.length := by omega
      rw [List.take_length]
      go_wp2
      go_ret
      exact ⟨retI HY.out.symm, Keep.refl _⟩
set_option maxRecDepth 100000 in
set_option maxHeartbeats 1000000 in
theorem rk_spec (a : Option Addr) (cap : Nat) (zs : List Int) (dy : Int) (w : World) (h : Ls w a zs) (hm : zs.length ≤ 1048576) :
    Calls Try.prog 39 #[.slice a zs.length cap, .int .i64 dy] w fun e w' => e = .returned (.int .i64 (rkV zs dy)) ∧ Keep w w' := by
  have HQ := Lib.hid (sqv_spec a cap zs w h (by omega))
  have HI := Lib.hid (fun W => l6In_any dy 0 ((zs.length : Int) - 1) W)
  rcases Bool.eq_false_or_eq_true (sqB zs) with hs | hs
  case' inr =>
    have HN := Lib.hid (rkV_no (show rkB zs dy = false by rw [rkB, hs]; rfl))
    rw [hs] at HQ
    clear hs
    go_enter Try.func39, Try.ntmps39
    go_wp2_with fail
    refine HQ.out.mono ?_
    rintro e w1 ⟨rfl, rfl⟩
    go_wp2
    go_ret
    exact ⟨retI HN.out.symm, Keep.refl _⟩
  rw [hs] at HQ
  have hl := (sq_facts hs).2
  rcases inB_cases dy 0 ((zs.length : Int) - 1) with ⟨hr, b0, b1⟩ | ⟨hr, b0⟩
  case' inr =>
    have HN := Lib.hid (rkV_no (show rkB zs dy = false by rw [rkB, hr, Bool.false_and, Bool.and_false]))
    rw [hr] at HI
    clear hs hr b0
    go_enter Try.func39, Try.ntmps39
    go_wp2_with fail
    refine HQ.out.mono ?_
    rintro e w1 ⟨rfl, rfl⟩
    go_wp2_with fail
    refine (HI.out _).mono ?_
    rintro e w1 ⟨rfl, rfl⟩
    go_wp2
    go_ret
    exact ⟨retI HN.out.symm, Keep.refl _⟩
  rw [hr] at HI
  obtain ⟨n, rfl⟩ := Int.eq_ofNat_of_zero_le b0
  have hn : n < zs.length := by omega
  obtain ⟨b, off, rfl, hb, hc⟩ := h.all (by omega)
  have cn := hc n hn
  have en : ((n : Nat) : Int).toNat = n := by omega
  by_cases hx : zs.getD n 0 = -9999
  · have HN := Lib.hid (rkV_no (show rkB zs (n : Int) = false by rw [rkB, en, hx]; simp))
    rw [hx] at cn
    clear hs hr hx hc
    go_enter Try.func39, Try.ntmps39
    go_wp2_with fail
    refine HQ.out.mono ?_
    rintro e w1 ⟨rfl, rfl⟩
    go_wp2_with fail
    refine (HI.out _).mono ?_
    rintro e w1 ⟨rfl, rfl⟩
    go_wp2
    go_ret
    exact ⟨retI HN.out.symm, Keep.refl _⟩
  have hxe : (zs.getD n 0 == -9999) = false := beq_eq_false_iff_ne.2 hx
  have HY := Lib.hid (rkV_yes (show rkB zs (n : Int) = true from rkB_mk hs (by omega) (by rw [en]; exact hx)))
  rw [en] at HY
  have HC := Lib.hid hc
  clear hs hr hx hc
  generalize rkV zs (n : Int) = v at *
  obtain ⟨x, hx⟩ : ∃ x, zs.getD n 0 = x := ⟨_, rfl⟩
  rw [hx] at cn hxe HY
  clear hx
  go_enter Try.func39, Try.ntmps39
  go_wp2_with fail
  refine HQ.out.mono ?_
  rintro e w1 ⟨rfl, rfl⟩
  go_wp2_with fail
  refine (HI.out _).mono ?_
  rintro e w1 ⟨rfl, rfl⟩
  clear HQ HI
  go_wp2_with fail
  go_loopw [5, 6] (fun s i wr => ∃ k m nn : Nat, k ≤ zs.length ∧ i = .int .i64 k ∧ m ≤ k ∧ s = .int .i64 (m : Int) ∧ Hid (cLt (knl (zs.take k)) x = m) ∧ wr = w.drewN nn) (fun _ i _ => zs.length - (intOf i).toNat)
  case atStart => exact ⟨0, 0, 0, by omega, rfl, by omega, rfl, Lib.hid rfl, rfl⟩
  case round =>
    obtain ⟨k, m, nn, hk, rfl, hmk, rfl, HM, rfl⟩ := hrel
    by_cases hlt : k < zs.length
    · have cz := HC.out k hlt
      have hS := knl_takeE zs hlt
      have k0 : (0 : Int) ≤ (k : Int) := by omega
      have kz : (k : Int) < (zs.length : Int) := by omega
      by_cases hy : zs.getD k 0 = -9999
      · have HS : Hid (cLt (knl (zs.take (k + 1))) x = m) := Lib.hid (by
          have e : knl (zs.take (k + 1)) = knl (zs.take k) := by rw [hS, hy]; simp [knl]
          rw [e]; exact HM.out)
        rw [hy] at cz
        clear hy hS
        go_wp2_with fail
        go_quiet (fail)
        go_wp2
        go_roundw
        case rel => exact ⟨k + 1, m, _, by omega, by go_num, by omega, rfl, HS, rfl⟩
        case measure => simp [intOf]; omega
      · have hy2 : (zs.getD k 0 != -9999) = true := bne_iff_ne.2 hy
        have HS : Hid (cLt (knl (zs.take (k + 1))) x = m + (if zs.getD k 0 < x then 1 else 0)) := Lib.hid (by
          have e : knl (zs.take (k + 1)) = knl (zs.take k) ++ [zs.getD k 0] := by
            rw [hS]; simp only [knl, List.filter_cons, hy2, List.filter_nil, if_true]
          rw [e]
          have h2 := HM.out
          unfold cLt at h2 ⊢
          rw [List.countP_append, h2]
          simp [List.countP_cons])
        clear hy hS
        generalize zs.getD k 0 = y at *
        by_cases hyx : y < x
        · have HS2 : Hid (cLt (knl (zs.take (k + 1))) x = m + 1) := Lib.hid (by rw [HS.out, if_pos hyx])
          clear HS
          have d : decide (y < x) = true := decide_eq_true hyx
          go_wp2_with fail
          go_quiet (fail)
          go_wp2
          go_roundw
          case rel => exact ⟨k + 1, m + 1, _, by omega, by go_num, by omega, by go_num, HS2, rfl⟩
          case measure => simp [intOf]; omega
        · have HS2 : Hid (cLt (knl (zs.take (k + 1))) x = m) := Lib.hid (by rw [HS.out, if_neg hyx, Nat.add_zero])
          clear HS
          have d : decide (y < x) = false := decide_eq_false hyx
          go_wp2_with fail
          go_quiet (fail)
          go_wp2
          go_roundw
          case rel => exact ⟨k + 1, m, _, by omega, by go_num, by omega, rfl, HS2, rfl⟩
          case measure => simp [intOf]; omega
    · obtain rfl : k = zs.length := by omega
      rw [List.take_length] at HM
      rw [HM.out] at HY
      go_wp2
      go_ret
      exact ⟨retI HY.out.symm, (Keep.refl _).drewN _⟩
end Go.Proofs.Ytdccpdclpidnbaa
