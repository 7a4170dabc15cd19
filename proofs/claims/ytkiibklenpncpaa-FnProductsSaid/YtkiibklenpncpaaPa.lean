/- All products: the program and the model answer 'plB' (valid products) and 'paOk', 'paL' (ProductsAll). -/
import Derived.Test.YtkiibklenpncpaaPw
import Derived.Test.YtkiibklenpncpaaPo
import Derived.Test.YtkiibklenpncpaaOi
import Derived.Test.YtkiibklenpncpaaTi
import Derived.LoopTactic
import Derived.IntWalk
import Derived.Outline
namespace Go.Proofs.Ytkiibklenpncpaa
open Go.RowKit
set_option linter.unusedVariables false

def pB (p : R5) : Bool := prB (qS p) (qT p) (qF p) (qN p) (qG p)
def pV (rs : List R4) (v : Int) (p : R5) : Int := pvV rs v (qS p) (qT p) (qF p) (qN p) (qG p)
def plB (ps : List R5) : Bool := decide (ps.length ≤ 6) && ps.all pB
theorem plB_bad {ps : List R5} (h : ps.all pB = false) : plB ps = false := by rw [plB, h, Bool.and_false]
theorem plB_yes {ps : List R5} (h : ps.all pB = true) (h2 : ps.length ≤ 6) : plB ps = true := by rw [plB, h, decide_eq_true h2]; rfl
theorem plB_long {ps : List R5} (h : 6 < ps.length) : plB ps = false := by rw [plB, decide_eq_false (by omega)]; rfl
theorem plB_facts {ps : List R5} (h : plB ps = true) : ps.length ≤ 6 ∧ ps.all pB = true := by
  rw [plB, Bool.and_eq_true] at h
  exact ⟨of_decide_eq_true h.1, h.2⟩
def paOk (rs : List R4) (v : Int) (ps : List R5) : Bool := vrB rs v && plB ps
def pal (rs : List R4) (v : Int) (ps : List R5) : List Int := ps.map (pV rs v)
def paL (rs : List R4) (v : Int) (ps : List R5) : List Int := if paOk rs v ps = true then pal rs v ps else []
theorem paL_no {rs : List R4} {v : Int} {ps : List R5} (h : paOk rs v ps = false) : paL rs v ps = [] := by rw [paL, if_neg (by rw [h]; simp)]
theorem paL_yes {rs : List R4} {v : Int} {ps : List R5} (h : paOk rs v ps = true) : paL rs v ps = pal rs v ps := by rw [paL, if_pos h]
theorem pal_len (rs : List R4) (v : Int) (ps : List R5) : (pal rs v ps).length = ps.length := by simp [pal]
theorem paL_len (rs : List R4) (v : Int) (ps : List R5) : (paL rs v ps).length ≤ ps.length := by
  unfold paL; split
  · rw [pal_len]; exact Nat.le_refl _
  · exact Nat.zero_le _
theorem pal_at {rs : List R4} {v : Int} {ps : List R5} {k : Nat} (h : k < ps.length) : (pal rs v ps).getD k 0 = pV rs v (ps.getD k p0) := by
  simp [pal, List.getD_eq_getElem?_getD, h]
theorem pal_snoc {rs : List R4} {v : Int} {ps : List R5} {k : Nat} (h : k < ps.length) : (pal rs v ps).take (k + 1) = (pal rs v ps).take k ++ [pV rs v (ps.getD k p0)] := by
  rw [List.take_succ_eq_append_getElem (by rw [pal_len]; exact h), ← pal_at (rs := rs) (v := v) h]
  simp [List.getD_eq_getElem?_getD, pal_len, h]
theorem partP_set {L : List Int} {k n : Nat} (hn : L.length = n) (hk : k < n) : (L.take k ++ List.replicate (n - k) 0).set k (L.getD k 0) = L.take (k + 1) ++ List.replicate (n - (k + 1)) 0 := by
  subst hn; exact part_set L k hk
theorem partP_len {L : List Int} {k n : Nat} (hn : L.length = n) (hk : k ≤ n) : (L.take k ++ List.replicate (n - k) 0).length = n := by
  simp; omega
theorem partP_all {L : List Int} {n : Nat} (hn : L.length = n) : L.take n ++ List.replicate (n - n) 0 = L := by
  subst hn; simp
theorem nwbP_made {L : List Int} {b : Bool} {w w' : World} {g n c : Nat} (h : Wr w' g L) (hn : n = L.length) (hb : b = true) (hc : n ≤ c) (hg : w.heap.size ≤ g) (hl : g < w'.heap.size) (k : Keep w w') : NwB L b w (.returned (.tuple #[.slice (some ⟨g, 0, none⟩) n c, .bool true])) w' := by
  subst hn; subst hb
  exact ⟨_, c, rfl, hc, .inr ⟨g, rfl, hg, hl, h⟩, k⟩
set_option maxHeartbeats 2000000 in
theorem pl_impl (a : Option Addr) (cap : Nat) (ps : List R5) (w : World) (h : Ps w a ps) (hm : ps.length ≤ 1048576) :
    Calls Try.prog 56 #[.slice a ps.length cap] w fun e w' => e = .returned (.bool (plB ps)) ∧ Keep w w' := by
  by_cases h2 : ps.length ≤ 6
  · have d1 : decide (6 < (ps.length : Int)) = false := by simp; omega
    go_enter Try.func56, Try.ntmps56
    go_wp2_with fail
    go_loopw [10] (fun i wr => ∃ k : Nat, k ≤ ps.length ∧ i = .int .i64 k ∧ Hid ((ps.take k).all pB = true) ∧ Keep w wr) (fun i _ => ps.length - (intOf i).toNat)
    case atStart => exact ⟨0, by omega, rfl, Lib.hid (by simp), Keep.refl w⟩
    case round =>
      obtain ⟨k, hk, rfl, HA, hK⟩ := hrel
      by_cases hlt : k < ps.length
      · obtain ⟨b, off, rfl, hb, hc⟩ := (h.keep hK).at_ hlt
        obtain ⟨c0, c1, c2, c3, c4⟩ := hc
        rcases Bool.eq_false_or_eq_true (pB (ps.getD k p0)) with hr | hr
        · have HS := Lib.hid (show (ps.take (k + 1)).all pB = true by rw [qtake_all _ _ _ hlt, HA.out, hr]; rfl)
          have HR : Hid (prB (qS (ps.getD k p0)) (qT (ps.getD k p0)) (qF (ps.getD k p0)) (qN (ps.getD k p0)) (qG (ps.getD k p0)) = true) := Lib.hid hr
          clear hr
          generalize qS (ps.getD k p0) = s at c0 HR
          generalize qT (ps.getD k p0) = t at c1 HR
          generalize qF (ps.getD k p0) = f at c2 HR
          generalize qN (ps.getD k p0) = n at c3 HR
          generalize qG (ps.getD k p0) = g at c4 HR
          go_wp2_with (go_at_call 61; refine (prv_impl s t f n g _).mono ?_; rintro e w1 ⟨he, hk1⟩; rw [HR.out] at he; subst he)
          go_roundw
          case rel => exact ⟨k + 1, by omega, by go_num, HS, (hK.alloc _).trans hk1⟩
          case measure => simp [intOf]; omega
        · have HF := Lib.hid (plB_bad (qall_not pB ps k hlt hr))
          have HR : Hid (prB (qS (ps.getD k p0)) (qT (ps.getD k p0)) (qF (ps.getD k p0)) (qN (ps.getD k p0)) (qG (ps.getD k p0)) = false) := Lib.hid hr
          clear hr
          generalize qS (ps.getD k p0) = s at c0 HR
          generalize qT (ps.getD k p0) = t at c1 HR
          generalize qF (ps.getD k p0) = f at c2 HR
          generalize qN (ps.getD k p0) = n at c3 HR
          generalize qG (ps.getD k p0) = g at c4 HR
          go_wp2_with (go_at_call 61; refine (prv_impl s t f n g _).mono ?_; rintro e w1 ⟨he, hk1⟩; rw [HR.out] at he; subst he)
          go_ret
          exact ⟨retB HF.out.symm, (hK.alloc _).trans hk1⟩
      · have HT := Lib.hid (plB_yes (ps := ps) (by rw [← List.take_of_length_le (show ps.length ≤ k by omega)]; exact HA.out) h2)
        go_wp2
        go_ret
        exact ⟨retB HT.out.symm, hK⟩
  · have HF := Lib.hid (plB_long (ps := ps) (by omega))
    have d1 : decide (6 < (ps.length : Int)) = true := by simp; omega
    go_enter Try.func56, Try.ntmps56
    go_wp2
    go_ret
    exact ⟨retB HF.out.symm, Keep.refl w⟩
set_option maxHeartbeats 2000000 in
theorem pl_spec (a : Option Addr) (cap : Nat) (ps : List R5) (w : World) (h : Ps w a ps) (hm : ps.length ≤ 1048576) :
    Calls Try.prog 58 #[.slice a ps.length cap] w fun e w' => e = .returned (.bool (plB ps)) ∧ Keep w w' := by
    go_enter Try.func58, Try.ntmps58
    go_wp2_with fail
    go_loopw [3] (fun i wr => ∃ k : Nat, k ≤ ps.length ∧ i = .int .i64 k ∧ Hid ((ps.take k).all pB = true) ∧ Keep w wr) (fun i _ => ps.length - (intOf i).toNat)
    case atStart => exact ⟨0, by omega, rfl, Lib.hid (by simp), Keep.refl w⟩
    case round =>
      obtain ⟨k, hk, rfl, HA, hK⟩ := hrel
      by_cases hlt : k < ps.length
      · obtain ⟨b, off, rfl, hb, hc⟩ := (h.keep hK).at_ hlt
        obtain ⟨c0, c1, c2, c3, c4⟩ := hc
        rcases Bool.eq_false_or_eq_true (pB (ps.getD k p0)) with hr | hr
        · have HS := Lib.hid (show (ps.take (k + 1)).all pB = true by rw [qtake_all _ _ _ hlt, HA.out, hr]; rfl)
          have HR : Hid (prB (qS (ps.getD k p0)) (qT (ps.getD k p0)) (qF (ps.getD k p0)) (qN (ps.getD k p0)) (qG (ps.getD k p0)) = true) := Lib.hid hr
          clear hr
          generalize qS (ps.getD k p0) = s at c0 HR
          generalize qT (ps.getD k p0) = t at c1 HR
          generalize qF (ps.getD k p0) = f at c2 HR
          generalize qN (ps.getD k p0) = n at c3 HR
          generalize qG (ps.getD k p0) = g at c4 HR
          go_wp2_with (go_at_call 98; refine (prv_spec s t f n g _).mono ?_; rintro e w1 ⟨he, hk1⟩; rw [HR.out] at he; subst he)
          go_roundw
          case rel => exact ⟨k + 1, by omega, by go_num, HS, hK.trans hk1⟩
          case measure => simp [intOf]; omega
        · have HF := Lib.hid (plB_bad (qall_not pB ps k hlt hr))
          have HR : Hid (prB (qS (ps.getD k p0)) (qT (ps.getD k p0)) (qF (ps.getD k p0)) (qN (ps.getD k p0)) (qG (ps.getD k p0)) = false) := Lib.hid hr
          clear hr
          generalize qS (ps.getD k p0) = s at c0 HR
          generalize qT (ps.getD k p0) = t at c1 HR
          generalize qF (ps.getD k p0) = f at c2 HR
          generalize qN (ps.getD k p0) = n at c3 HR
          generalize qG (ps.getD k p0) = g at c4 HR
          go_wp2_with (go_at_call 98; refine (prv_spec s t f n g _).mono ?_; rintro e w1 ⟨he, hk1⟩; rw [HR.out] at he; subst he)
          go_ret
          exact ⟨retB HF.out.symm, hK.trans hk1⟩
      · have HA2 : Hid (ps.all pB = true) := Lib.hid (by rw [← List.take_of_length_le (show ps.length ≤ k by omega)]; exact HA.out)
        have HT : Hid (decide ((ps.length : Int) ≤ 6) = plB ps) := Lib.hid (by
          by_cases h2 : ps.length ≤ 6
          · rw [plB_yes HA2.out h2]; simp; omega
          · rw [plB_long (by omega)]; simp; omega)
        go_wp2
        go_ret
        exact ⟨retB HT.out, hK⟩
set_option maxRecDepth 100000 in
set_option maxHeartbeats 4000000 in
theorem pa_impl (a : Option Addr) (cap : Nat) (rs : List R4) (v : Int) (b : Option Addr) (cb : Nat) (ps : List R5) (w : World) (h : Rs w a rs) (hm : rs.length ≤ 1048576) (hc : rs.length ≤ cap) (hp : Ps w b ps) (hq : ps.length ≤ 1048576) :
    Calls Try.prog 13 #[.slice a rs.length cap, .int .i64 v, .slice b ps.length cb] w (NwB (paL rs v ps) (paOk rs v ps) w) := by
  have HN0 : ∀ (hb : paOk rs v ps = false) W, Keep w W → NwB (paL rs v ps) (paOk rs v ps) w (.returned (.tuple #[.slice none 0 0, .bool false])) W := fun hb W k => nwb_no (paL_no hb) hb _ _ k
  have HN := Lib.hid HN0
  clear HN0
  have HVV := Lib.hid (vv_impl a cap rs v w h (by omega))
  rcases Bool.eq_false_or_eq_true (vrB rs v) with hv | hv
  case' inr =>
    have HB := Lib.hid (show paOk rs v ps = false by rw [paOk, hv]; rfl)
    rw [hv] at HVV
    clear hv
    go_enter Try.func13, Try.ntmps13
    go_wp2_with fail
    refine HVV.out.mono ?_
    rintro e w1 ⟨rfl, k1⟩
    go_wp2
    go_ret2
    exact HN.out HB.out _ k1
  have HPL := Lib.hid (fun W (k : Keep w W) => pl_impl b cb ps W (hp.keep k) hq)
  rcases Bool.eq_false_or_eq_true (plB ps) with hl | hl
  case' inr =>
    have HB := Lib.hid (show paOk rs v ps = false by rw [paOk, hl, Bool.and_false])
    rw [hv] at HVV
    rw [hl] at HPL
    clear hv hl
    go_enter Try.func13, Try.ntmps13
    go_wp2_with fail
    refine HVV.out.mono ?_
    rintro e w1 ⟨rfl, k1⟩
    go_wp2_with fail
    refine (HPL.out _ k1).mono ?_
    rintro e w2 ⟨rfl, k2⟩
    go_wp2
    go_ret2
    exact HN.out HB.out _ (k1.trans k2)
  have HOK := Lib.hid (show paOk rs v ps = true by rw [paOk, hv, hl]; rfl)
  have HLL := Lib.hid (paL_yes HOK.out)
  have hn6 := (plB_facts hl).1
  rw [hv] at HVV
  rw [hl] at HPL
  clear hv hl HN
  obtain ⟨n, hn⟩ : ∃ n, ps.length = n := ⟨_, rfl⟩
  have HLn : Hid ((pal rs v ps).length = n) := Lib.hid (by rw [pal_len, hn])
  have HC := Lib.hid (fun (s t f d g : Int) W (k : Keep w W) => pvv_impl a cap rs v s t f d g W (h.keep k) hm hc)
  have HAt := Lib.hid (fun k (hk : k < n) W (kW : Keep w W) => (hp.keep kW).at_ (i := k) (by omega))
  have HVal : Hid (∀ k, k < n → (pal rs v ps).getD k 0 = pvV rs v (qS (ps.getD k p0)) (qT (ps.getD k p0)) (qF (ps.getD k p0)) (qN (ps.getD k p0)) (qG (ps.getD k p0))) := Lib.hid (fun k hk => pal_at (rs := rs) (v := v) (ps := ps) (k := k) (by omega))
  have hmk := fun W => run_make_row' (P := Try.prog) 27 3 (.int .i64 0) 8 Try.underlying27 infoIntO rfl .i64 .i64 n (by omega) (by omega) W
  rw [hn] at HPL ⊢
  rw [hn] at hn6
  clear hp hn h hq
  go_enter Try.func13, Try.ntmps13
  go_wp2_with fail
  refine HVV.out.mono ?_
  rintro e w1 ⟨rfl, k1⟩
  go_wp2_with fail
  refine (HPL.out _ k1).mono ?_
  rintro e w2 ⟨rfl, k2⟩
  have k12 := k1.trans k2
  have hz := k12.size
  clear k1 k2 HVV HPL
  have hmk2 := hmk w2
  clear hmk
  go_wp2_with fail
  go_loopw [25] (fun i wr => ∃ k : Nat, k ≤ n ∧ i = .int .i64 k ∧ Hid (Wr wr w2.heap.size ((pal rs v ps).take k ++ List.replicate (n - k) 0)) ∧ w2.heap.size < wr.heap.size ∧ Keep w2 wr) (fun i _ => n - (intOf i).toNat)
  case atStart =>
    refine ⟨0, by omega, rfl, Lib.hid ?_, by simp, (Keep.refl w2).alloc _⟩
    intro j hj
    have hj' : j < n := by simpa using hj
    refine ⟨(World.cell?_alloc_new w2 _ _ j).trans ?_, World.frozen?_alloc_at _ _ _ _ rfl⟩
    rw [made_at _ _ hj']
    simp [List.getD_eq_getElem?_getD, hj']
  case round =>
    obtain ⟨k, hk, rfl, HW, hlw, hK⟩ := hrel
    clear hmk2
    by_cases hlt : k < n
    · have kw := k12.trans hK
      obtain ⟨bb, off, rfl, hb, hcc⟩ := HAt.out k hlt wr kw
      obtain ⟨c0, c1, c2, c3, c4⟩ := hcc
      obtain ⟨u0, u1⟩ := HW.out k (by rw [partP_len HLn.out hk]; exact hlt)
      have hP := partP_set HLn.out hlt
      have HX0 := HVal.out k hlt
      obtain ⟨yv, hyv⟩ : ∃ yv, yv = (pal rs v ps).getD k 0 := ⟨_, rfl⟩
      rw [← hyv] at HX0
      have HX := Lib.hid HX0
      clear HX0
      have kz : (k : Int) < (n : Int) := by omega
      have HW0 := Lib.hid HW.out
      generalize ((pal rs v ps).take k ++ List.replicate (n - k) 0).getD k 0 = y at u0
      generalize qS (ps.getD k p0) = x0 at c0 HX
      generalize qT (ps.getD k p0) = x1 at c1 HX
      generalize qF (ps.getD k p0) = x2 at c2 HX
      generalize qN (ps.getD k p0) = x3 at c3 HX
      generalize qG (ps.getD k p0) = x4 at c4 HX

      go_wp2_with fail
      refine (HC.out _ _ _ _ _ _ (by first | with_reducible exact kw.alloc _ | with_reducible exact kw)).mono ?_
      rintro e w3 ⟨rfl, k3⟩
      have kk : Keep wr w3 := by first | exact ((Keep.refl wr).alloc _).trans k3 | exact k3
      have u0' := kk.cell u0
      have u1' := kk.still u0 u1
      have HW2 : Hid (Wr (w3.setCell ⟨w2.heap.size, k, none⟩ (.int .i64 (pvV rs v x0 x1 x2 x3 x4))) w2.heap.size ((pal rs v ps).take (k + 1) ++ List.replicate (n - (k + 1)) 0)) := Lib.hid (by
        have h9 := (HW0.out.keep kk).set (k := k) (by rw [partP_len HLn.out hk]; exact hlt) ((pal rs v ps).getD k 0)
        rw [hP, ← hyv, HX.out] at h9; exact h9)
      have hl3 : w2.heap.size < w3.heap.size := Nat.lt_of_lt_of_le hlw kk.size
      clear hP k3 HX
      generalize pvV rs v x0 x1 x2 x3 x4 = x at *
      go_wp2
      go_roundw
      case rel => exact ⟨k + 1, by omega, by go_num, HW2, by simpa [World.setCell] using hl3, (hK.trans kk).setCell (Nat.le_refl _) _⟩
      case measure => simp [intOf]; omega
    · have HWF : Hid (Wr wr w2.heap.size (pal rs v ps)) := Lib.hid (by
        have h9 := HW.out
        rw [show k = n by omega, partP_all HLn.out] at h9
        exact h9)
      go_wp2
      go_ret2
      rw [HLL.out, HOK.out]
      exact nwbP_made HWF.out HLn.out.symm rfl (Nat.le_refl _) hz hlw (k12.trans hK)
set_option maxRecDepth 100000 in
set_option maxHeartbeats 4000000 in
theorem pa_spec (a : Option Addr) (cap : Nat) (rs : List R4) (v : Int) (b : Option Addr) (cb : Nat) (ps : List R5) (w : World) (h : Rs w a rs) (hm : rs.length ≤ 1048576) (hc : rs.length ≤ cap) (hp : Ps w b ps) (hq : ps.length ≤ 1048576) :
    Calls Try.prog 14 #[.slice a rs.length cap, .int .i64 v, .slice b ps.length cb] w (NwB (paL rs v ps) (paOk rs v ps) w) := by
  have HN0 : ∀ (hb : paOk rs v ps = false) x c W, Keep w W → NwB (paL rs v ps) (paOk rs v ps) w (.returned (.tuple #[.slice x 0 c, .bool false])) W := fun hb x c W k => nwb_no (paL_no hb) hb _ _ k
  have HN := Lib.hid HN0
  clear HN0
  have HVV := Lib.hid (sv_spec a cap rs w h (by omega))
  have HPL := Lib.hid (fun W (k : Keep w W) => pl_spec b cb ps W (hp.keep k) hq)
  have hcs : (stB rs = false ∧ paOk rs v ps = false) ∨ (stB rs = true ∧ inB v 0 (rs.length : Int) = false ∧ paOk rs v ps = false) ∨ (stB rs = true ∧ inB v 0 (rs.length : Int) = true ∧ plB ps = false ∧ paOk rs v ps = false) ∨ (stB rs = true ∧ inB v 0 (rs.length : Int) = true ∧ plB ps = true ∧ paOk rs v ps = true) := by
    unfold paOk vrB
    cases stB rs <;> cases inB v 0 (rs.length : Int) <;> cases plB ps <;> simp
  rcases hcs with ⟨h1, hB⟩ | ⟨h1, h2, hB⟩ | ⟨h1, h2, h3, hB⟩ | ⟨h1, h2, h3, hB⟩
  · have HB := Lib.hid hB
    rw [h1] at HVV
    clear h1 hB
    go_enter Try.func14, Try.ntmps14
    go_wp2_with fail
    refine HVV.out.mono ?_
    rintro e w1 ⟨rfl, k1⟩
    go_wp2
    go_ret2
    exact HN.out HB.out _ _ _ (k1.alloc _)
  · have HB := Lib.hid hB
    rw [h1] at HVV
    clear h1 hB
    go_enter Try.func14, Try.ntmps14
    go_wp2_with fail
    refine HVV.out.mono ?_
    rintro e w1 ⟨rfl, k1⟩
    go_wp2_with fail
    refine (l6In_any _ _ _ _).mono ?_
    rintro e w1 ⟨rfl, rfl⟩
    rw [h2]
    go_wp2
    go_ret2
    exact HN.out HB.out _ _ _ (k1.alloc _)
  · have HB := Lib.hid hB
    rw [h1] at HVV
    rw [h3] at HPL
    clear h1 hB h3
    go_enter Try.func14, Try.ntmps14
    go_wp2_with fail
    refine HVV.out.mono ?_
    rintro e w1 ⟨rfl, k1⟩
    go_wp2_with fail
    refine (l6In_any _ _ _ _).mono ?_
    rintro e w1 ⟨rfl, rfl⟩
    rw [h2]
    go_wp2_with fail
    refine (HPL.out _ k1).mono ?_
    rintro e w2 ⟨rfl, k2⟩
    go_wp2
    go_ret2
    exact HN.out HB.out _ _ _ ((k1.trans k2).alloc _)
  have HOK := Lib.hid hB
  have HLL := Lib.hid (paL_yes HOK.out)
  have hn6 := (plB_facts h3).1
  rw [h1] at HVV
  rw [h3] at HPL
  clear h1 h3 HN hB
  obtain ⟨n, hn⟩ : ∃ n, ps.length = n := ⟨_, rfl⟩
  have HLn : Hid ((pal rs v ps).length = n) := Lib.hid (by rw [pal_len, hn])
  have HC := Lib.hid (fun (s t f d g : Int) W (k : Keep w W) => pvv_spec a cap rs v s t f d g W (h.keep k) hm hc)
  have HAt := Lib.hid (fun k (hk : k < n) W (kW : Keep w W) => (hp.keep kW).at_ (i := k) (by omega))
  have HVal : Hid (∀ k, k < n → (pal rs v ps).take (k + 1) = (pal rs v ps).take k ++ [pvV rs v (qS (ps.getD k p0)) (qT (ps.getD k p0)) (qF (ps.getD k p0)) (qN (ps.getD k p0)) (qG (ps.getD k p0))]) := Lib.hid (fun k hk => pal_snoc (rs := rs) (v := v) (ps := ps) (k := k) (by omega))
  obtain ⟨i0, hi0, hz0, hz1, hz2⟩ := info_parts infoIntO
  rw [hn] at HPL ⊢
  rw [hn] at hn6
  clear hp hn h hq
  go_enter Try.func14, Try.ntmps14
  go_wp2_with fail
  refine HVV.out.mono ?_
  rintro e w1 ⟨rfl, k1⟩
  go_wp2_with fail
  refine (l6In_any _ _ _ _).mono ?_
  rintro e w1 ⟨rfl, rfl⟩
  rw [h2]
  go_wp2_with fail
  refine (HPL.out _ k1).mono ?_
  rintro e w2 ⟨rfl, k2⟩
  have k12 := k1.trans k2
  have hz := k12.size
  clear k1 k2 HVV HPL
  go_wp2_with fail
  go_loopw [8, 9] (fun u i wr => ∃ (k g c : Nat), k ≤ n ∧ i = .int .i64 k ∧ u = .slice (some ⟨g, 0, none⟩) k c ∧ Hid (OwI wr w2.heap.size (.slice (some ⟨g, 0, none⟩) k c) ((pal rs v ps).take k)) ∧ Keep w2 wr) (fun _ i _ => n - (intOf i).toNat)
  case atStart => exact ⟨0, w2.heap.size, 0, by omega, rfl, rfl, Lib.hid (OwI.made w2), (Keep.refl w2).alloc _⟩
  case round =>
    obtain ⟨k, g, c, hk, rfl, rfl, HW, hK⟩ := hrel
    have hsz := hK.size
    by_cases hlt : k < n
    · have kw := k12.trans hK
      obtain ⟨bb, off, rfl, hb, hcc⟩ := HAt.out k hlt wr kw
      obtain ⟨c0, c1, c2, c3, c4⟩ := hcc
      have HX0 := HVal.out k hlt
      have HX := Lib.hid HX0
      clear HX0
      have hlk : ((pal rs v ps).take k).length = k := by rw [List.length_take, HLn.out]; omega
      have HLK := Lib.hid hlk
      clear hlk
      have kz : (k : Int) < (n : Int) := by omega
      generalize qS (ps.getD k p0) = x0 at c0 HX
      generalize qT (ps.getD k p0) = x1 at c1 HX
      generalize qF (ps.getD k p0) = x2 at c2 HX
      generalize qN (ps.getD k p0) = x3 at c3 HX
      generalize qG (ps.getD k p0) = x4 at c4 HX

      go_wp2_with fail
      refine (HC.out _ _ _ _ _ _ (by first | with_reducible exact kw | with_reducible exact kw.alloc _)).mono ?_
      rintro e w3 ⟨rfl, k3⟩
      have hK3 : Keep w2 w3 := hK.trans k3
      have hsz3 := hK3.size
      have HW3 := Lib.hid (HW.out.keep k3)
      generalize pvV rs v x0 x1 x2 x3 x4 = x at *
      clear hsz
      have hown : w3.ownsRow w2.heap.size 3 1 _ _ _ := (by have h9 := HW3.out; unfold OwI at h9; rw [HLK.out] at h9; exact h9)
      go_wp2_with (at_builtin; refine wpList_append_own _ rfl _ _ 27 rfl w2.heap.size 3 i0 (.int .i64 0) 1 8 Try.underlying27 hi0 hz0 hz1 hz2 rfl (by decide) _ _ _ rfl (hown.alloc _) ⟨w3.heap.size, 0, none⟩ 1 1 [.int .i64 x] rfl rfl ?c1a ?c2a ?c3a ?c4a ?c5a ?_)
      try case c1a =>
        intro j u hj
        match j, hj with
        | 0, hj => simp at hj; subst hj; simp [Addr.add]
      case c2a => first | rfl | (intro u hu; simp at hu; subst hu; rfl)
      case c3a => unfold maxLen; omega
      case c4a => omega
      case c5a => first | omega | (simp; omega)
      intro v' w9 hown' hgrow hnil
      have HK2 : Hid (Keep w2 w9) := Lib.hid (Below.grown (hK3.alloc (.cells #[.int .i64 x] 3)) hgrow (hK3.alloc (.cells #[.int .i64 x] 3)).size (fun q hq => (hown.lt q hq).1))
      clear hgrow hnil hown

      have HN2 : Hid (OwI w9 w2.heap.size v' ((pal rs v ps).take (k + 1))) := Lib.hid (by rw [HX.out]; unfold OwI; rw [List.length_append, HLK.out, List.map_append]; rw [List.map_take]; exact hown')
      have HF2 : ∃ g c, v' = .slice (some ⟨g, 0, none⟩) (k + 1) c := by
        obtain ⟨g', c', e, _⟩ := hown'.form (by omega)
        exact ⟨g', c', e⟩
      obtain ⟨g', c', rfl⟩ := HF2
      clear hown'
      go_wp2
      go_roundw
      case rel => exact ⟨k + 1, g', c', by omega, by go_num, rfl, HN2, HK2.out⟩
      case measure => simp [intOf]; omega
    · have HWF : Hid (OwI wr w2.heap.size (.slice (some ⟨g, 0, none⟩) k c) (pal rs v ps)) := Lib.hid (by
        have h9 := HW.out
        rw [List.take_of_length_le (by rw [HLn.out]; omega)] at h9
        exact h9)
      go_wp2
      go_ret2
      rw [HLL.out, HOK.out]
      exact nwb_own HWF.out rfl hz (k12.trans hK)
end Go.Proofs.Ytkiibklenpncpaa
