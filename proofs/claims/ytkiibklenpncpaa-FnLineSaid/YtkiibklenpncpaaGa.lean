/- Gaps: arguments, values that agree, widths: the program and the model answer 'gaB', 'ffV', 'wdV'. -/
import Derived.Test.YtkiibklenpncpaaGp
import Derived.Test.YtkiibklenpncpaaDi
import Derived.Test.YtkiibklenpncpaaSq
import Derived.Test.YtkiibklenpncpaaRg
import Derived.Test.YtkiibklenpncpaaRr
import Derived.LoopTactic
import Derived.Deep.QuietTactic
import Derived.BigQuiet
namespace Go.Proofs.Ytkiibklenpncpaa
open Go.RowKit
set_option linter.unusedVariables false

theorem gaB_1 {zs : List Int} {lo hi st : Int} (h : sqB zs = false) : gaB zs lo hi st = false := by rw [gaB, h]; rfl
set_option maxRecDepth 100000 in
set_option maxHeartbeats 1000000 in
theorem ga_impl (a : Option Addr) (cap : Nat) (zs : List Int) (lo hi st : Int) (w : World) (h : Ls w a zs) (hm : zs.length ≤ 4611686018427387904) :
    Calls Try.prog 81 #[.slice a zs.length cap, .int .i64 lo, .int .i64 hi, .int .i64 st] w fun e w' => e = .returned (.bool (gaB zs lo hi st)) ∧ w = w' := by
  have HQ := Lib.hid (sqv_impl a cap zs w h hm)
  obtain ⟨q, hq⟩ : ∃ q, sqB zs = q := ⟨_, rfl⟩
  obtain ⟨r, hr⟩ : ∃ r, rdB lo = r := ⟨_, rfl⟩
  obtain ⟨s, hs⟩ : ∃ s, rdB hi = s := ⟨_, rfl⟩
  obtain ⟨t, ht⟩ : ∃ t, inB st 0 19999 = t := ⟨_, rfl⟩
  have HG : Hid (gaB zs lo hi st = (q && (r && (s && (decide (lo ≤ hi) && t))))) := Lib.hid (by rw [gaB, hq, hr, hs, ht])
  rw [hq] at HQ
  have HR := Lib.hid (rd_impl lo w)
  have HS := Lib.hid (rd_impl hi w)
  have HT := Lib.hid (gsv_any st w)
  rw [hr] at HR
  rw [hs] at HS
  rw [ht] at HT
  clear hq hr hs ht
  cases q
  · go_enter Try.func81, Try.ntmps81
    go_wp2_with (go_at_call 68; with_reducible refine HQ.out.mono ?_; rintro e w' ⟨rfl, rfl⟩)
    go_ret
    exact ⟨retB (by rw [HG.out]; rfl), rfl⟩
  cases r
  · go_enter Try.func81, Try.ntmps81
    go_wp2_with (first | (go_at_call 68; with_reducible refine HQ.out.mono ?_; rintro e w' ⟨rfl, rfl⟩) | (go_at_call 77; with_reducible refine HR.out.mono ?_; rintro e w' ⟨rfl, rfl⟩))
    go_ret
    exact ⟨retB (by rw [HG.out]; rfl), rfl⟩
  cases s
  · go_enter Try.func81, Try.ntmps81
    go_wp2_with (first | (go_at_call 68; with_reducible refine HQ.out.mono ?_; rintro e w' ⟨rfl, rfl⟩) | (go_at_call 77; first | (with_reducible refine HR.out.mono ?_; rintro e w' ⟨rfl, rfl⟩) | (with_reducible refine HS.out.mono ?_; rintro e w' ⟨rfl, rfl⟩)))
    go_ret
    exact ⟨retB (by rw [HG.out]; rfl), rfl⟩
  by_cases hlh : lo ≤ hi
  case' neg =>
    have d : decide (lo ≤ hi) = false := decide_eq_false hlh
    go_enter Try.func81, Try.ntmps81
    go_wp2_with (first | (go_at_call 68; with_reducible refine HQ.out.mono ?_; rintro e w' ⟨rfl, rfl⟩) | (go_at_call 77; first | (with_reducible refine HR.out.mono ?_; rintro e w' ⟨rfl, rfl⟩) | (with_reducible refine HS.out.mono ?_; rintro e w' ⟨rfl, rfl⟩)))
    go_ret
    exact ⟨retB (by rw [HG.out, d]; rfl), rfl⟩
  have d : decide (lo ≤ hi) = true := decide_eq_true hlh
  go_enter Try.func81, Try.ntmps81
  go_wp2_with (first | (go_at_call 68; with_reducible refine HQ.out.mono ?_; rintro e w' ⟨rfl, rfl⟩) | (go_at_call 77; first | (with_reducible refine HR.out.mono ?_; rintro e w' ⟨rfl, rfl⟩) | (with_reducible refine HS.out.mono ?_; rintro e w' ⟨rfl, rfl⟩)) | (go_at_call 114; with_reducible refine HT.out.mono ?_; rintro e w' ⟨rfl, rfl⟩))
  go_ret
  exact ⟨retB (by rw [HG.out, d]; rfl), rfl⟩
end Go.Proofs.Ytkiibklenpncpaa
