/- Costs of parts: the program and the model answer 'shB', 'pcV'. -/
import Derived.Test.YtpgdbhafdnfhcaaPc
import Derived.Test.YtpgdbhafdnfhcaaMd
import Derived.LoopTactic
import Derived.Deep.QuietTactic
import Derived.BigQuiet
import Derived.IntWalk
namespace Go.Proofs.Ytpgdbhafdnfhcaa
open Go.RowKit
set_option linter.unusedVariables false

set_option maxHeartbeats 1000000 in
theorem ixv_any (a : Option Addr) (cap : Nat) (zs : List Int) (x : Int) (w : World) (h : Ls w a zs) (hm : zs.length ≤ 1048576) :
    Calls Try.prog 135 #[.slice a zs.length cap, .int .i64 x] w fun e w' => ((x ∈ zs ∧ ∃ i : Nat, e = .returned (.int .i64 (i : Int))) ∨ (x ∉ zs ∧ e = .returned (.int .i64 (-1)))) ∧ w = w' := by
  go_enter Try.func135, Try.ntmps135
  go_wp2_with fail
  go_loop [8] (fun i => ∃ k : Nat, k ≤ zs.length ∧ i = .int .i64 k ∧ Hid (x ∉ zs.take k)) (fun i => zs.length - (intOf i).toNat)
  case atStart => exact ⟨0, by omega, rfl, Lib.hid (by simp)⟩
  case round =>
    obtain ⟨k, hk, rfl, HN⟩ := hrel
    by_cases hlt : k < zs.length
    · obtain ⟨b, off, rfl, hb, c0⟩ := h.at_ hlt
      have ht : zs.take (k + 1) = zs.take k ++ [zs.getD k 0] := by
        rw [List.take_add_one]; simp [List.getD_eq_getElem?_getD, hlt]
      have hin := getD_mem hlt
      by_cases hx : x = zs.getD k 0
      · have HM : Hid (x ∈ zs) := Lib.hid (by rw [hx]; exact hin)
        rw [← hx] at c0
        clear ht hin hx
        go_wp2
        go_ret
        exact ⟨.inl ⟨HM.out, k, rfl⟩, rfl⟩
      · have HN2 : Hid (x ∉ zs.take (k + 1)) := Lib.hid (by
          rw [ht, List.mem_append]
          rintro (h1 | h1)
          · exact HN.out h1
          · exact hx (List.mem_singleton.1 h1))
        have hx1 : (x == zs.getD k 0) = false := beq_eq_false_iff_ne.2 hx
        clear ht hin hx
        generalize zs.getD k 0 = y at c0 hx1
        go_wp2
        go_round
        case rel => exact ⟨k + 1, by omega, by go_num, HN2⟩
        case measure => simp [intOf]; omega
    · have HM : Hid (x ∉ zs) := Lib.hid (by
        have h1 := HN.out
        rwa [List.take_of_length_le (by omega)] at h1)
      go_wp2
      go_ret
      exact ⟨.inr ⟨HM.out, rfl⟩, rfl⟩
set_option maxHeartbeats 400000 in
theorem co_any (a : Option Addr) (cap : Nat) (zs : List Int) (x : Int) (w : World) (h : Ls w a zs) (hm : zs.length ≤ 1048576) :
    Calls Try.prog 113 #[.slice a zs.length cap, .int .i64 x] w fun e w' => e = .returned (.bool (decide (x ∈ zs))) ∧ w = w' := by
  go_enter Try.func113, Try.ntmps113
  go_wp2_with fail
  refine (ixv_any a cap zs x w h hm).mono ?_
  rintro e w' ⟨⟨hx, i, rfl⟩ | ⟨hx, rfl⟩, rfl⟩
  · have HX := Lib.hid (decide_eq_true hx)
    have d : decide ((0 : Int) ≤ (i : Int)) = true := decide_eq_true (by omega)
    clear hx
    go_wp2
    go_ret
    exact ⟨retB HX.out.symm, rfl⟩
  · have HX := Lib.hid (decide_eq_false hx)
    clear hx
    go_wp2
    go_ret
    exact ⟨retB HX.out.symm, rfl⟩
theorem shB_1 {zs : List Int} (h : sqB zs = false) : shB zs = false := by rw [shB, h]; rfl
theorem shB_2 {zs : List Int} (h : ¬ zs.length ≤ 8) : shB zs = false := by rw [shB, decide_eq_false h]; simp
theorem shB_3 {zs : List Int} (h : (-9999 : Int) ∈ zs) : shB zs = false := by rw [shB]; simp [h]
theorem shB_yes {zs : List Int} (h : sqB zs = true) (h2 : zs.length ≤ 8) (h3 : (-9999 : Int) ∉ zs) : shB zs = true := by rw [shB, h, decide_eq_true h2, decide_eq_true h3]; rfl
set_option maxRecDepth 100000 in
set_option maxHeartbeats 1000000 in
theorem shv_impl (a : Option Addr) (cap : Nat) (zs : List Int) (w : World) (h : Ls w a zs) (hm : zs.length ≤ 1048576) :
    Calls Try.prog 71 #[.slice a zs.length cap] w fun e w' => e = .returned (.bool (shB zs)) ∧ w = w' := by
  have HQ := Lib.hid (fun W (hW : w = W) => hW ▸ sqv_impl a cap zs w h (by omega))
  have HC := Lib.hid (fun W (hW : w = W) => hW ▸ co_any a cap zs (-9999) w h hm)
  rcases Bool.eq_false_or_eq_true (sqB zs) with hq | hq
  case' inr =>
    have HF := Lib.hid (shB_1 hq)
    rw [hq] at HQ
    clear hq
    go_enter Try.func71, Try.ntmps71
    go_wp2_with (go_at_call 85; with_reducible refine (HQ.out _ rfl).mono ?_; rintro e w' ⟨rfl, rfl⟩)
    go_ret
    exact ⟨retB HF.out.symm, rfl⟩
  rw [hq] at HQ
  by_cases h8 : zs.length ≤ 8
  case' neg =>
    have HF := Lib.hid (shB_2 h8)
    have d : decide ((zs.length : Int) ≤ 8) = false := decide_eq_false (by omega)
    clear hq
    go_enter Try.func71, Try.ntmps71
    go_wp2_with (go_at_call 85; with_reducible refine (HQ.out _ rfl).mono ?_; rintro e w' ⟨rfl, rfl⟩)
    go_ret
    exact ⟨retB HF.out.symm, rfl⟩
  have d : decide ((zs.length : Int) ≤ 8) = true := decide_eq_true (by omega)
  by_cases hn : (-9999 : Int) ∈ zs
  · have HF := Lib.hid (shB_3 hn)
    rw [decide_eq_true hn] at HC
    clear hq hn
    go_enter Try.func71, Try.ntmps71
    go_wp2_with (first | (go_at_call 85; with_reducible refine (HQ.out _ rfl).mono ?_; rintro e w' ⟨rfl, rfl⟩) | (go_at_call 113; with_reducible refine (HC.out _ rfl).mono ?_; rintro e w' ⟨rfl, rfl⟩))
    go_ret
    exact ⟨retB HF.out.symm, rfl⟩
  · have HF := Lib.hid (shB_yes hq h8 hn)
    rw [decide_eq_false hn] at HC
    clear hq hn
    go_enter Try.func71, Try.ntmps71
    go_wp2_with (first | (go_at_call 85; with_reducible refine (HQ.out _ rfl).mono ?_; rintro e w' ⟨rfl, rfl⟩) | (go_at_call 113; with_reducible refine (HC.out _ rfl).mono ?_; rintro e w' ⟨rfl, rfl⟩))
    go_ret
    exact ⟨retB HF.out.symm, rfl⟩
set_option maxRecDepth 100000 in
set_option maxHeartbeats 1000000 in
theorem shv_spec (a : Option Addr) (cap : Nat) (zs : List Int) (w : World) (h : Ls w a zs) (hm : zs.length ≤ 1048576) :
    Calls Try.prog 75 #[.slice a zs.length cap] w fun e w' => e = .returned (.bool (shB zs)) ∧ w = w' := by
  have HQ := Lib.hid (fun W (hW : w = W) => hW ▸ sqv_spec a cap zs w h (by omega))
  have HC := Lib.hid (fun W (hW : w = W) => hW ▸ sk_spec a cap zs w h (by omega))
  rcases Bool.eq_false_or_eq_true (sqB zs) with hq | hq
  case' inr =>
    have HF := Lib.hid (shB_1 hq)
    rw [hq] at HQ
    clear hq
    go_enter Try.func75, Try.ntmps75
    go_wp2_with (go_at_call 89; with_reducible refine (HQ.out _ rfl).mono ?_; rintro e w' ⟨rfl, rfl⟩)
    go_ret
    exact ⟨retB HF.out.symm, rfl⟩
  rw [hq] at HQ
  have hk : sk zs = ((knl zs).length : Int) := by rw [sk_yes hq, knN_all zs]
  rw [hk] at HC
  clear hk
  by_cases hn : (-9999 : Int) ∈ zs
  · have HF := Lib.hid (shB_3 hn)
    have d : (((knl zs).length : Int) == (zs.length : Int)) = false := beq_eq_false_iff_ne.2 (fun e => (knl_len_iff zs).1 (by omega) hn)
    clear hq hn
    generalize (knl zs).length = m at *
    go_enter Try.func75, Try.ntmps75
    go_wp2_with (first | (go_at_call 89; with_reducible refine (HQ.out _ rfl).mono ?_; rintro e w' ⟨rfl, rfl⟩) | (go_at_call 114; with_reducible refine (HC.out _ rfl).mono ?_; rintro e w' ⟨rfl, rfl⟩))
    go_ret
    exact ⟨retB HF.out.symm, rfl⟩
  have hl : (knl zs).length = zs.length := (knl_len_iff zs).2 hn
  rw [hl] at HC
  clear hl
  by_cases h8 : zs.length ≤ 8
  · have HF := Lib.hid (shB_yes hq h8 hn)
    have d : decide ((zs.length : Int) ≤ 8) = true := decide_eq_true (by omega)
    clear hq hn
    go_enter Try.func75, Try.ntmps75
    go_wp2_with (first | (go_at_call 89; with_reducible refine (HQ.out _ rfl).mono ?_; rintro e w' ⟨rfl, rfl⟩) | (go_at_call 114; with_reducible refine (HC.out _ rfl).mono ?_; rintro e w' ⟨rfl, rfl⟩))
    go_ret
    exact ⟨retB HF.out.symm, rfl⟩
  · have HF := Lib.hid (shB_2 h8)
    have d : decide ((zs.length : Int) ≤ 8) = false := decide_eq_false (by omega)
    clear hq hn
    go_enter Try.func75, Try.ntmps75
    go_wp2_with (first | (go_at_call 89; with_reducible refine (HQ.out _ rfl).mono ?_; rintro e w' ⟨rfl, rfl⟩) | (go_at_call 114; with_reducible refine (HC.out _ rfl).mono ?_; rintro e w' ⟨rfl, rfl⟩))
    go_ret
    exact ⟨retB HF.out.symm, rfl⟩
set_option maxRecDepth 100000 in
set_option maxHeartbeats 1000000 in
theorem pc_impl (a : Option Addr) (cap : Nat) (zs : List Int) (w : World) (h : Ls w a zs) (hm : zs.length ≤ 1048576) :
    Calls Try.prog 74 #[.slice a zs.length cap] w fun e w' => e = .returned (.int .i64 (pcV zs)) ∧ Keep w w' := by
  rcases Bool.eq_false_or_eq_true (shB zs) with hq | hq
  case' inr =>
    have HF := Lib.hid (pcV_no hq)
    go_enter Try.func74, Try.ntmps74
    go_wp2_with (go_at_call 71; refine (shv_impl a cap zs _ h hm).mono ?_; rintro e w' ⟨he, rfl⟩; rw [hq] at he; subst he)
    go_ret
    exact ⟨retI HF.out.symm, Keep.refl _⟩
  obtain ⟨h1, h2, h3⟩ := sh_mo hq
  have HS := Lib.hid (shv_impl a cap zs w h hm)
  rw [hq] at HS
  have HM := Lib.hid (mo_impl a cap zs w h hm)
  rw [h1, h2] at HM
  have HV := Lib.hid (pcV_yes hq)
  have HSh := Lib.hid hq
  have hl8 := (shB_facts hq).2.1
  clear h1 h2 hq
  generalize mdL zs = m at *
  go_enter Try.func74, Try.ntmps74
  go_wp2_with fail
  refine HS.out.mono ?_
  rintro e w' ⟨rfl, rfl⟩
  go_wp2_with fail
  refine HM.out.mono ?_
  rintro e w1 ⟨rfl, k1⟩
  go_wp2_with fail
  go_loopw [5, 18] (fun c i wr => ∃ k : Nat, k ≤ zs.length ∧ i = .int .i64 k ∧ c = .int .i64 (pcN zs m k) ∧ Keep w1 wr) (fun _ i _ => zs.length - (intOf i).toNat)
  case atStart => exact ⟨0, by omega, rfl, rfl, Keep.refl _⟩
  case round =>
    obtain ⟨k, hk, rfl, rfl, hK⟩ := hrel
    by_cases hlt : k < zs.length
    · obtain ⟨b, off, rfl, hb, hc⟩ := (h.keep (k1.trans hK)).at_ hlt
      have hz := sh_at HSh.out hlt
      have hb0 := pcN_nn zs m k
      have hb1 := pcN_bd (zs := zs) (m := m) (fun j hj => by have := sh_at HSh.out hj; omega) (by omega) k hk
      have HN : Hid (pcN zs m (k + 1) = pcN zs m k + dst (zs.getD k 0) m) := Lib.hid rfl
      generalize pcN zs m k = n at *
      generalize zs.getD k 0 = z at *
      have HD := Lib.hid (fun W => dst_any z m W (by omega) (by omega) (by omega) (by omega))
      have hd : 0 ≤ dst z m ∧ dst z m ≤ 22000 := by unfold dst; split <;> omega
      generalize dst z m = d at *
      go_wp2_with fail
      refine (HD.out _).mono ?_
      rintro e w2 ⟨rfl, rfl⟩
      go_wp2
      go_roundw
      case rel => exact ⟨k + 1, by omega, by go_num, by rw [HN.out], hK⟩
      case measure => simp [intOf]; omega
    · obtain rfl : k = zs.length := by omega
      go_wp2
      go_ret
      exact ⟨retI HV.out.symm, k1.trans hK⟩
set_option maxRecDepth 100000 in
set_option maxHeartbeats 1000000 in
theorem lp_spec (a : Option Addr) (cap : Nat) (zs : List Int) (w : World) (h : Ls w a zs) (hs : shB zs = true) :
    Calls Try.prog 115 #[.slice a zs.length cap] w fun e w' => e = .returned (.int .i64 (pcV zs)) ∧ Keep w w' := by
  obtain ⟨_, _, h3⟩ := sh_mo hs
  have hl8 := (shB_facts hs).2.1
  have hl1 := (sq_facts (shB_facts hs).1).2.1
  have HM := Lib.hid (md_spec a cap zs w h (by omega) (by omega))
  have HV := Lib.hid (pcV_yes hs)
  have HSh := Lib.hid hs
  clear hs
  generalize mdL zs = m at *
  go_enter Try.func115, Try.ntmps115
  go_wp2_with fail
  refine HM.out.mono ?_
  rintro e w1 ⟨rfl, k1⟩
  go_wp2_with fail
  go_loopw [4, 5] (fun c i wr => ∃ k : Nat, k ≤ zs.length ∧ i = .int .i64 k ∧ c = .int .i64 (pcN zs m k) ∧ Keep w1 wr) (fun _ i _ => zs.length - (intOf i).toNat)
  case atStart => exact ⟨0, by omega, rfl, rfl, Keep.refl _⟩
  case round =>
    obtain ⟨k, hk, rfl, rfl, hK⟩ := hrel
    by_cases hlt : k < zs.length
    · obtain ⟨b, off, rfl, hb, hc⟩ := (h.keep (k1.trans hK)).at_ hlt
      have hz := sh_at HSh.out hlt
      have hb0 := pcN_nn zs m k
      have hb1 := pcN_bd (zs := zs) (m := m) (fun j hj => by have := sh_at HSh.out hj; omega) (by omega) k hk
      have HN : Hid (pcN zs m (k + 1) = pcN zs m k + dst (zs.getD k 0) m) := Lib.hid rfl
      have k0 : (0 : Int) ≤ (k : Int) := by omega
      have kz : (k : Int) < (zs.length : Int) := by omega
      generalize pcN zs m k = n at *
      generalize zs.getD k 0 = z at *
      have s1 : IntKind.i64.wrap (z - m) = z - m := IntWalk.i64_in _ (by omega)
      have s2 : IntKind.i64.wrap (m - z) = m - z := IntWalk.i64_in _ (by omega)
      have s3 : IntKind.i64.wrap (n + (z - m)) = n + (z - m) := IntWalk.i64_in _ (by omega)
      have s4 : IntKind.i64.wrap (n + (m - z)) = n + (m - z) := IntWalk.i64_in _ (by omega)
      by_cases q : z < m
      · have HD : Hid (dst z m = m - z) := Lib.hid (by unfold dst; rw [if_pos q])
        have q1 : z - m < m - z := by omega
        have q2 : decide (z - m < m - z) = true := decide_eq_true q1
        go_wp2_with fail
        go_quiet (fail)
        go_wp2
        go_roundw
        case rel => exact ⟨k + 1, by omega, by go_num, by rw [HN.out, HD.out]; congr 1; omega, hK.drewN _⟩
        case measure => simp [intOf]; omega
      · have HD : Hid (dst z m = z - m) := Lib.hid (by unfold dst; rw [if_neg q])
        have q1 : ¬ (z - m < m - z) := by omega
        have q2 : decide (z - m < m - z) = false := decide_eq_false q1
        go_wp2_with fail
        go_quiet (fail)
        go_wp2
        go_roundw
        case rel => exact ⟨k + 1, by omega, by go_num, by rw [HN.out, HD.out]; congr 1; omega, hK.drewN _⟩
        case measure => simp [intOf]; omega
    · obtain rfl : k = zs.length := by omega
      go_wp2
      go_ret
      exact ⟨retI HV.out.symm, k1.trans hK⟩
end Go.Proofs.Ytpgdbhafdnfhcaa
