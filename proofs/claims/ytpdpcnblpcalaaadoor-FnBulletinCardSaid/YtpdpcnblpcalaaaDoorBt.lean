/- Texts of series: what the model's BulletinText answers ('btT'). -/
import Derived.Test.YtpdpcnblpcalaaaDoorTx
import Derived.Test.YtpdpcnblpcalaaaDoorBs
import Derived.Test.YtpdpcnblpcalaaaDoorSe
import Derived.Test.YtpdpcnblpcalaaaDoorLs
import Derived.LoopTactic
namespace Go.Proofs.YtpdpcnblpcalaaaDoor
open Go.RowKit Go.Lib
set_option linter.unusedVariables false

/-- A value's word. -/
def bdW (v : Int) : List UInt8 := if v = -9999 then [47] else itoa v
def bdF (s t f : Int) : List UInt8 := (98 :: itoa s) ++ (32 :: 107 :: itoa t) ++ (32 :: 100 :: itoa f)
def bdL (s t f : Int) (zs : List Int) : List UInt8 := bdF s t f ++ zs.flatMap fun v => 32 :: bdW v
def btV (s t f : Int) (zs : List Int) (i : Nat) : Bool := decide (zs.getD i 0 = -9999) || rOk s (f + (i : Int)) t (zs.getD i 0)
def btA (s t f : Int) (zs : List Int) : Bool := (List.range zs.length).all (btV s t f zs)
def btB (s t f : Int) (n : Nat) : Bool := saB s t f (n : Int) && decide (f + (n : Int) - 1 ≤ 999)
/-- A series that has a text. -/
def btOk (s t f : Int) (zs : List Int) : Bool := btA s t f zs && btB s t f zs.length
def btS (l : List UInt8) : List UInt8 := l ++ 32 :: 61 :: itoa (bsL l : Int)
def btL (s t f : Int) (zs : List Int) : List UInt8 := btS (bdL s t f zs)
def btT (s t f : Int) (zs : List Int) : ByteArray := if btOk s t f zs then ⟨(btL s t f zs).toArray⟩ else ⟨#[]⟩
theorem btT_no {s t f : Int} {zs : List Int} (h : btOk s t f zs = false) : btT s t f zs = ⟨#[]⟩ := by simp [btT, h]
theorem btT_yes {s t f : Int} {zs : List Int} (h : btOk s t f zs = true) : btT s t f zs = ⟨(btL s t f zs).toArray⟩ := by simp [btT, h]
theorem btA_no {s t f : Int} {zs : List Int} {k : Nat} (hk : k < zs.length) (h : btV s t f zs k = false) : btA s t f zs = false := by
  rcases Bool.eq_false_or_eq_true (btA s t f zs) with h9 | h9
  · have := List.all_eq_true.1 h9 k (List.mem_range.2 hk)
    rw [h] at this; exact absurd this (by decide)
  · exact h9
theorem btA_yes {s t f : Int} {zs : List Int} (h : ∀ k, k < zs.length → btV s t f zs k = true) : btA s t f zs = true :=
  List.all_eq_true.2 fun k hk => h k (List.mem_range.1 hk)
theorem rOk_val {s d t v : Int} (h : rOk s d t v = true) : -600 ≤ v ∧ v ≤ 10900 := by
  simp only [rOk, inB, Bool.and_eq_true, decide_eq_true_eq] at h
  have h2 := h.2
  have a1 : -600 ≤ kLo t := by unfold kLo; split <;> (try split) <;> omega
  have a2 : kHi t ≤ 10900 := by unfold kHi; split <;> (try split) <;> (try split) <;> omega
  omega
theorem btOk_facts {s t f : Int} {zs : List Int} (h : btOk s t f zs = true) :
    (1 ≤ s ∧ s ≤ 9) ∧ (1 ≤ t ∧ t ≤ 3) ∧ (0 ≤ f ∧ f ≤ 999) ∧ (1 ≤ zs.length ∧ zs.length ≤ 12) ∧ ∀ k, k < zs.length → zs.getD k 0 = -9999 ∨ (-600 ≤ zs.getD k 0 ∧ zs.getD k 0 ≤ 10900) := by
  simp only [btOk, btB, Bool.and_eq_true, decide_eq_true_eq] at h
  obtain ⟨hk, hs, hf, m, hm, hm1, hm2⟩ := saB_facts h.2.1
  refine ⟨hs, by simpa [kOk] using hk, hf, by omega, fun k hk => ?_⟩
  have h1 := List.all_eq_true.1 h.1 k (List.mem_range.2 hk)
  simp only [btV, Bool.or_eq_true, decide_eq_true_eq] at h1
  rcases h1 with h1 | h1
  · exact .inl h1
  · exact .inr (rOk_val h1)
theorem bdW_len {v : Int} (h1 : -99999 ≤ v) (h2 : v ≤ 99999) : (bdW v).length ≤ 6 := by
  unfold bdW; split
  · simp
  · exact itoa_len h1 h2
/-- The first k words. -/
def bdP (s t f : Int) (zs : List Int) (k : Nat) : List UInt8 := bdF s t f ++ (zs.take k).flatMap fun v => 32 :: bdW v
theorem bdP_zero (s t f : Int) (zs : List Int) : bdP s t f zs 0 = bdF s t f := by simp [bdP]
theorem bdP_succ (s t f : Int) {zs : List Int} {k : Nat} (hk : k < zs.length) : bdP s t f zs (k + 1) = bdP s t f zs k ++ 32 :: bdW (zs.getD k 0) := by
  have e : zs.take (k + 1) = zs.take k ++ [zs.getD k 0] := by
    rw [List.take_succ_eq_append_getElem hk]; simp [List.getD_eq_getElem?_getD, hk]
  rw [bdP, e, List.flatMap_append, ← List.append_assoc, ← bdP]; simp
theorem bdP_all (s t f : Int) {zs : List Int} {k : Nat} (hk : zs.length ≤ k) : bdP s t f zs k = bdL s t f zs := by
  rw [bdP, List.take_of_length_le hk, bdL]
theorem bdP_len {s t f : Int} {zs : List Int} (hs : 1 ≤ s ∧ s ≤ 9) (ht : 1 ≤ t ∧ t ≤ 3) (hf : 0 ≤ f ∧ f ≤ 999)
    (hz : ∀ k, k < zs.length → zs.getD k 0 = -9999 ∨ (-600 ≤ zs.getD k 0 ∧ zs.getD k 0 ≤ 10900)) : ∀ k, k ≤ zs.length → (bdP s t f zs k).length ≤ 24 + 7 * k
  | 0, _ => by
    have a := itoa_len (n := s) (by omega) (by omega)
    have b := itoa_len (n := t) (by omega) (by omega)
    have c := itoa_len (n := f) (by omega) (by omega)
    rw [bdP_zero, bdF]
    simp only [List.length_append, List.length_cons]; omega
  | k + 1, hk => by
    have ih := bdP_len hs ht hf hz k (by omega)
    have h1 := hz k (by omega)
    have h2 := bdW_len (v := zs.getD k 0) (by omega) (by omega)
    rw [bdP_succ s t f (by omega)]
    simp only [List.length_append, List.length_cons]; omega
theorem btT_size {s t f : Int} {zs : List Int} (h : btOk s t f zs = true) : 2 ≤ (btT s t f zs).size ∧ (btT s t f zs).size ≤ 120 := by
  obtain ⟨hs, ht, hf, hl, hz⟩ := btOk_facts h
  have h1 := bdP_len hs ht hf hz zs.length (Nat.le_refl _)
  rw [bdP_all s t f (Nat.le_refl _)] at h1
  have h2 := bsL_lt (bdL s t f zs)
  have h3 := itoa_len (n := (bsL (bdL s t f zs) : Int)) (by omega) (by omega)
  rw [btT_yes h]
  have e : (⟨(btL s t f zs).toArray⟩ : ByteArray).size = (btL s t f zs).length := by simp [ByteArray.size]
  rw [e, btL, btS]
  simp only [List.length_append, List.length_cons]; omega
theorem bts_list (l : List UInt8) : (⟨l.toArray⟩ : ByteArray).data.toList = l := by simp
theorem bts_app (l m : List UInt8) : (⟨l.toArray⟩ : ByteArray) ++ ⟨m.toArray⟩ = ⟨(l ++ m).toArray⟩ := bytes_eq (by simp)
theorem bts_size (l : List UInt8) : (⟨l.toArray⟩ : ByteArray).size = l.length := by simp [ByteArray.size]

set_option maxRecDepth 100000 in
set_option maxHeartbeats 3200000 in
theorem bo_spec (a : Option Addr) (c : Nat) (s t f : Int) (zs : List Int) (w : World) (h : Ls w a zs) (hm : zs.length ≤ 1048576) (hf : -20000 ≤ f ∧ f ≤ 20000) :
    Calls Tryd.prog 23 #[.int .i64 s, .int .i64 t, .int .i64 f, .slice a zs.length c] w fun e w' => e = .returned (.bool (btOk s t f zs)) ∧ Keep w w' := by
  go_enter Tryd.func23, Tryd.ntmps23
  go_wp2_with fail
  go_loopw [9] (fun i wr => ∃ k : Nat, k ≤ zs.length ∧ i = .int .i64 k ∧ Hid (∀ j, j < k → btV s t f zs j = true) ∧ Keep w wr) (fun i _ => zs.length - (intOf i).toNat)
  case atStart => exact ⟨0, by omega, rfl, Lib.hid (fun j hj => absurd hj (by omega)), Keep.refl _⟩
  case round =>
    obtain ⟨k, hk, rfl, HA, hK⟩ := hrel
    by_cases hlt : k < zs.length
    · obtain ⟨b, off, hae, hb, hc⟩ := (h.keep hK).all (by omega)
      have cz := hc k hlt
      subst hae
      have HV : Hid (btV s t f zs k = (decide (zs.getD k 0 = -9999) || rOk s (f + (k : Int)) t (zs.getD k 0))) := Lib.hid rfl
      have HNO := Lib.hid (fun h9 : btV s t f zs k = false => (show btOk s t f zs = false by rw [btOk, btA_no hlt h9]; rfl))
      have HYES := Lib.hid (fun h9 : btV s t f zs k = true => fun j (hj : j < k + 1) => (show btV s t f zs j = true by
        by_cases e : j < k
        · exact HA.out j e
        · obtain rfl : j = k := by omega
          exact h9))
      generalize zs.getD k 0 = z at *
      have hfk : IntKind.i64.wrap (f + (k : Int)) = f + (k : Int) := IntWalk.i64_in _ (by omega)
      clear hc HA
      by_cases hz : z = -9999
      · have hzd : (z != -9999) = false := by simp [hz]
        have HY := Lib.hid (HYES.out (by rw [HV.out, hz]; rfl))
        clear HNO HYES HV hz
        go_wp2
        go_roundw
        case rel => exact ⟨k + 1, by omega, by go_num, HY, hK⟩
        case measure => simp [intOf]; omega
      · have hzd : (z != -9999) = true := by simp [hz]
        have HV2 : Hid (btV s t f zs k = rOk s (f + (k : Int)) t z) := Lib.hid (by rw [HV.out, decide_eq_false hz]; rfl)
        obtain ⟨r, hr⟩ : ∃ r, rOk s (f + (k : Int)) t z = r := ⟨_, rfl⟩
        have HRV := Lib.hid (fun W => rv_spec s (f + (k : Int)) t z W)
        rw [hr] at HRV HV2
        clear hr HV hz
        go_wp2_with fail
        refine (HRV.out _).mono ?_
        rintro e w1 ⟨rfl, k1⟩
        have hK1 : Keep w w1 := hK.trans k1
        cases r
        · have HN := Lib.hid (HNO.out HV2.out)
          go_wp2
          go_ret
          exact ⟨retB HN.out.symm, hK1⟩
        · have HY := Lib.hid (HYES.out HV2.out)
          go_wp2
          go_roundw
          case rel => exact ⟨k + 1, by omega, by go_num, HY, hK1⟩
          case measure => simp [intOf]; omega
    · obtain rfl : k = zs.length := by omega
      have HF : Hid (btOk s t f zs = (kOk t && inB s 1 9 && inB f 0 999 && inB (zs.length : Int) 1 12 && decide (f + (zs.length : Int) - 1 ≤ 999))) := Lib.hid (by rw [btOk, btA_yes HA.out]; rfl)
      have hfk : IntKind.i64.wrap (f + (zs.length : Int)) = f + (zs.length : Int) := IntWalk.i64_in _ (by omega)
      have hfk1 : IntKind.i64.wrap (f + (zs.length : Int) - 1) = f + (zs.length : Int) - 1 := IntWalk.i64_in _ (by omega)
      have hb1 : kOk t = true ∨ kOk t = false := by cases kOk t <;> simp
      have hb2 : inB s 1 9 = true ∨ inB s 1 9 = false := by cases inB s 1 9 <;> simp
      have hb3 : inB f 0 999 = true ∨ inB f 0 999 = false := by cases inB f 0 999 <;> simp
      have hb4 : inB (zs.length : Int) 1 12 = true ∨ inB (zs.length : Int) 1 12 = false := by cases inB (zs.length : Int) 1 12 <;> simp
      clear HA hk hlt
      go_wp2_with fail
      refine (kl_spec _ _).mono ?_
      rintro e w1 ⟨rfl, rfl⟩
      rcases hb1 with hb1 | hb1
      case' inr =>
        rw [hb1]
        go_wp2
        go_ret
        exact ⟨retB (by rw [HF.out, hb1]; rfl), hK⟩
      rw [hb1]
      go_wp2_with fail
      refine (l6In_any _ _ _ _).mono ?_
      rintro e w1 ⟨rfl, rfl⟩
      rcases hb2 with hb2 | hb2
      case' inr =>
        rw [hb2]
        go_wp2
        go_ret
        exact ⟨retB (by rw [HF.out, hb1, hb2]; rfl), hK⟩
      rw [hb2]
      go_wp2_with fail
      refine (l6In_any _ _ _ _).mono ?_
      rintro e w1 ⟨rfl, rfl⟩
      rcases hb3 with hb3 | hb3
      case' inr =>
        rw [hb3]
        go_wp2
        go_ret
        exact ⟨retB (by rw [HF.out, hb1, hb2, hb3]; rfl), hK⟩
      rw [hb3]
      go_wp2_with fail
      refine (l6In_any _ _ _ _).mono ?_
      rintro e w1 ⟨rfl, rfl⟩
      rcases hb4 with hb4 | hb4
      case' inr =>
        rw [hb4]
        go_wp2
        go_ret
        exact ⟨retB (by rw [HF.out, hb1, hb2, hb3, hb4]; rfl), hK⟩
      rw [hb4]
      go_wp2
      go_ret
      exact ⟨retB (by rw [HF.out, hb1, hb2, hb3, hb4]; first | rfl | (simp; done) | (rw [Bool.eq_iff_iff]; simp; omega)), hK⟩
set_option maxRecDepth 100000 in
set_option maxHeartbeats 3200000 in
theorem bd_spec (a : Option Addr) (c : Nat) (s t f : Int) (zs : List Int) (w : World) (h : Ls w a zs) (hok : btOk s t f zs = true) :
    Calls Tryd.prog 24 #[.int .i64 s, .int .i64 t, .int .i64 f, .slice a zs.length c] w fun e w' => e = .returned (.string ⟨(bdL s t f zs).toArray⟩) ∧ Keep w w' := by
  obtain ⟨hs, ht, hf, hl, hz⟩ := btOk_facts hok
  have HP := Lib.hid (bdP_len hs ht hf hz)
  have HZ := Lib.hid hz
  have s1 := dtx_size (n := s) (by omega) (by omega)
  have s2 := dtx_size (n := t) (by omega) (by omega)
  have s3 := dtx_size (n := f) (by omega) (by omega)
  have HF : Hid ((⟨#[98]⟩ : ByteArray) ++ dtx s ++ ⟨#[32, 107]⟩ ++ dtx t ++ ⟨#[32, 100]⟩ ++ dtx f = ⟨(bdP s t f zs 0).toArray⟩) := Lib.hid (bytes_eq (by simp [dtx_list, bdP_zero, bdF]))
  clear hz hok
  go_enter Tryd.func24, Tryd.ntmps24
  go_wp2_with fail
  refine (dec_any _ _ (by omega) (by omega)).mono ?_
  rintro e w1 ⟨rfl, k1⟩
  go_wp2_with fail
  refine (dec_any _ _ (by omega) (by omega)).mono ?_
  rintro e w2 ⟨rfl, k2⟩
  go_wp2_with fail
  refine (dec_any _ _ (by omega) (by omega)).mono ?_
  rintro e w3 ⟨rfl, k3⟩
  have K3 : Keep w w3 := (k1.trans k2).trans k3
  clear k1 k2 k3
  go_wp2_with fail
  rw [HF.out]
  go_loopw [9, 10] (fun u i wr => ∃ k : Nat, k ≤ zs.length ∧ i = .int .i64 k ∧ u = .string ⟨(bdP s t f zs k).toArray⟩ ∧ Keep w wr) (fun _ i _ => zs.length - (intOf i).toNat)
  case atStart => exact ⟨0, by omega, rfl, rfl, K3⟩
  case round =>
    obtain ⟨k, hk, rfl, rfl, hK⟩ := hrel
    by_cases hlt : k < zs.length
    · obtain ⟨b, off, hae, hb, hc⟩ := (h.keep hK).all (by omega)
      have cz := hc k hlt
      subst hae
      have hzk := HZ.out k hlt
      have HS := Lib.hid (bdP_succ s t f hlt)
      have hpl := HP.out k hk
      have HSZ := bts_size (bdP s t f zs k)
      rw [← HSZ] at hpl
      have HAP := Lib.hid (bts_app (bdP s t f zs k))
      obtain ⟨q, hq⟩ : ∃ q, bdP s t f zs (k + 1) = q := ⟨_, rfl⟩
      have HQ := Lib.hid hq
      rw [hq] at HS
      clear hq
      obtain ⟨p, hp⟩ : ∃ p : ByteArray, (⟨(bdP s t f zs k).toArray⟩ : ByteArray) = p := ⟨_, rfl⟩
      rw [hp] at hpl HAP ⊢
      generalize bdP s t f zs k = pl at *
      generalize zs.getD k 0 = z at *
      clear hp HSZ hc HZ HP
      by_cases hz : z = -9999
      · have hzd : (z == -9999) = true := beq_iff_eq.2 hz
        have HE : Hid (p ++ ⟨#[32, 47]⟩ = ⟨q.toArray⟩) := Lib.hid (by rw [HS.out, bdW, if_pos hz]; exact HAP.out _)
        clear HS HAP hz
        go_wp2_with fail
        rw [HE.out]
        go_roundw
        case rel => exact ⟨k + 1, by omega, by go_num, by rw [HQ.out], hK⟩
        case measure => simp [intOf]; omega
      · have hzd : (z == -9999) = false := beq_eq_false_iff_ne.2 hz
        have hb2 : -600 ≤ z ∧ z ≤ 10900 := by omega
        have hzs := dtx_size (n := z) (by omega) (by omega)
        have HE : Hid (p ++ ⟨#[32]⟩ ++ dtx z = ⟨q.toArray⟩) := Lib.hid (by
          have e1 := HAP.out [32]
          have e0 : (⟨[32].toArray⟩ : ByteArray) = ⟨#[32]⟩ := rfl
          rw [e0] at e1
          rw [e1, HS.out, bdW, if_neg hz, dtx, bts_app]; simp)
        clear HS HAP hz hzk
        go_wp2_with fail
        refine (int_any _ _ (by omega) (by omega)).mono ?_
        rintro e w4 ⟨rfl, k4⟩
        go_wp2_with fail
        rw [HE.out]
        go_roundw
        case rel => exact ⟨k + 1, by omega, by go_num, by rw [HQ.out], hK.trans k4⟩
        case measure => simp [intOf]; omega
    · obtain rfl : k = zs.length := by omega
      rw [bdP_all s t f (Nat.le_refl _)]
      go_wp2
      go_ret
      exact ⟨rfl, hK⟩
set_option maxRecDepth 100000 in
set_option maxHeartbeats 3200000 in
theorem bt_spec (a : Option Addr) (c : Nat) (s t f : Int) (zs : List Int) (w : World) (h : Ls w a zs) (hm : zs.length ≤ 1048576) (hf : -20000 ≤ f ∧ f ≤ 20000) :
    Calls Tryd.prog 8 #[.int .i64 s, .int .i64 t, .int .i64 f, .slice a zs.length c] w fun e w' => e = .returned (.string (btT s t f zs)) ∧ Keep w w' := by
  have HB := Lib.hid (bo_spec a c s t f zs w h hm hf)
  obtain ⟨ok, hok⟩ : ∃ x, btOk s t f zs = x := ⟨_, rfl⟩
  rw [hok] at HB
  cases ok
  · have HT := Lib.hid (btT_no hok)
    clear hok
    go_enter Tryd.func8, Tryd.ntmps8
    go_wp2_with fail
    refine HB.out.mono ?_
    rintro e w1 ⟨rfl, k1⟩
    go_wp2
    go_ret
    exact ⟨retS HT.out.symm, k1⟩
  · have HT := Lib.hid (btT_yes hok)
    have HD := Lib.hid (fun W (hk : Keep w W) => bd_spec a c s t f zs W (h.keep hk) hok)
    obtain ⟨hs, ht, hf', hl, hz⟩ := btOk_facts hok
    have h1 := bdP_len hs ht hf' hz zs.length (Nat.le_refl _)
    rw [bdP_all s t f (Nat.le_refl _)] at h1
    have hlt := bsL_lt (bdL s t f zs)
    have HS := bts_size (bdL s t f zs)
    have HLS := Lib.hid (bts_list (bdL s t f zs))
    rw [btL, btS] at HT
    have HAP := Lib.hid (bts_app (bdL s t f zs))
    obtain ⟨p, hp⟩ : ∃ p : ByteArray, (⟨(bdL s t f zs).toArray⟩ : ByteArray) = p := ⟨_, rfl⟩
    rw [hp] at HD HS HLS HAP
    generalize bdL s t f zs = L at *
    have hps : p.size ≤ 200 := by omega
    have HBS := Lib.hid (fun W => bs_spec p W (by omega))
    rw [HLS.out] at HBS
    generalize bsL L = n at *
    have hds := dtx_size (n := (n : Int)) (by omega) (by omega)
    have HE : Hid (p ++ ⟨#[32, 61]⟩ ++ dtx n = ⟨(L ++ 32 :: 61 :: itoa n).toArray⟩) := Lib.hid (by
      have e1 := HAP.out [32, 61]
      have e0 : (⟨[32, 61].toArray⟩ : ByteArray) = ⟨#[32, 61]⟩ := rfl
      rw [e0] at e1
      rw [e1, dtx, bts_app]; simp)
    clear hp hz HAP HLS HS h1 hok
    go_enter Tryd.func8, Tryd.ntmps8
    go_wp2_with fail
    refine HB.out.mono ?_
    rintro e w1 ⟨rfl, k1⟩
    go_wp2_with fail
    refine (HD.out _ k1).mono ?_
    rintro e w2 ⟨rfl, k2⟩
    go_wp2_with fail
    refine (HBS.out _).mono ?_
    rintro e w3 ⟨rfl, rfl⟩
    go_wp2_with fail
    refine (dec_any _ _ (by omega) (by omega)).mono ?_
    rintro e w4 ⟨rfl, k4⟩
    go_wp2
    go_ret
    exact ⟨retS (HE.out.trans HT.out.symm), (k1.trans k2).trans k4⟩
end Go.Proofs.YtpdpcnblpcalaaaDoor
