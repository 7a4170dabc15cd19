/- Texts of one claim in one: Cur2, Bj, Bcu, Bcv, Bcb, Gd, Ie, Bge, Bua, Sp, Sp2, Bud, Bub, Bgs, Bx, Buc, Bue, Te, Buf. -/
import Derived.Test.YtpdpcnblpcalaaaDoorCur
import Derived.Test.YtpdpcnblpcalaaaDoorShelf
import Derived.Test.YtpdpcnblpcalaaaDoorBt
import Derived.Test.YtpdpcnblpcalaaaDoorTxI
import Derived.Test.YtpdpcnblpcalaaaDoorDrHl
import Derived.Stop.LaidErr
import Derived.LaidLaws
import Derived.WalkKit
import Derived.LaidEql
import Derived.Stop.Asserts
import Derived.RowKitTokens
import Derived.Test.YtpdpcnblpcalaaaDoorCut
import Derived.Test.YtpdpcnblpcalaaaDoorTxt
import Derived.Test.YtpdpcnblpcalaaaDoorNum
import Derived.Test.YtpdpcnblpcalaaaDoorKeep
import Derived.LoopTactic
import Derived.IntWalk
import Derived.Lib.Hide
import Derived.WalkSpells
import Derived.Outline
import Derived.Test.YtpdpcnblpcalaaaDoorMg
import Derived.Deep.AppendLies
namespace Go.Proofs.YtpdpcnblpcalaaaDoor
open Go.RowKit
set_option linter.unusedVariables false

/-- A reader with R still to read. -/
def CurR (w : World) (b : Nat) (s : ByteArray) (R : List UInt8) : Prop := ∃ p, Cur w b s p ∧ s.data.toList.drop p = R

theorem CurR.drewN {w : World} {b : Nat} {s : ByteArray} {R : List UInt8} (h : CurR w b s R) (n : Nat) : CurR (w.drewN n) b s R := h
theorem Cur.same {w w' : World} {b B p : Nat} {s : ByteArray} (h : Cur w b s p) (k : Only B w w') (hne : b ≠ B) : Cur w' b s p := by
  obtain ⟨c0, c1, f1, hb, h1, h2⟩ := h
  exact ⟨(k.cell _ _ hb hne).trans c0, (k.cell _ _ hb hne).trans c1, (k.frozen _ _ hb hne).trans f1, Nat.lt_of_lt_of_le hb k.size, h1, h2⟩
theorem CurR.keep {w w' : World} {b : Nat} {s : ByteArray} {R : List UInt8} (h : CurR w b s R) (k : Keep w w') : CurR w' b s R := by
  obtain ⟨p, ⟨c0, c1, f1, hb, h1, h2⟩, hR⟩ := h
  exact ⟨p, ⟨k.cell c0, k.cell c1, k.still c1 f1, Nat.lt_of_lt_of_le hb k.size, h1, h2⟩, hR⟩
theorem CurR.lt {w : World} {b : Nat} {s : ByteArray} {R : List UInt8} (h : CurR w b s R) : b < w.heap.size := by obtain ⟨p, ⟨_, _, _, hb, _⟩, _⟩ := h; exact hb

/-- What 'take' leaves. -/
def TakePost (w : World) (b : Nat) (s : ByteArray) (R : List UInt8) (x : UInt8) (e : Ending) (w' : World) : Prop :=
  Only b w w' ∧ ((∃ t, R = x :: t ∧ CurR w' b s t ∧ e = .returned (.bool true)) ∨ ((∀ t, R ≠ x :: t) ∧ CurR w' b s R ∧ e = .returned (.bool false)))

theorem take_R (b : Nat) (s : ByteArray) (R : List UInt8) (x : UInt8) (w : World) (h : CurR w b s R) :
    Calls Tryd.prog 58 #[.pointer (some ⟨b, 0, none⟩), .int .u8 (x.toNat : Int)] w (TakePost w b s R x) := by
  obtain ⟨p, hc, hR⟩ := h
  have hp : p ≤ s.size := hc.2.2.2.2.1
  by_cases he : p = s.size
  · subst he
    have hR' : R = [] := by rw [← hR]; exact drop_none (Nat.le_refl _)
    refine (take_end b x.toNat s w hc).mono fun e w' ⟨he, n, hw⟩ => ?_
    subst hw
    exact ⟨(Only.refl b w).drewN n, .inr ⟨fun t => by rw [hR']; simp, ⟨_, hc.drewN n, hR⟩, he⟩⟩
  · have hlt : p < s.size := by omega
    have hd := drop_some hlt
    by_cases hx : s[p] = x
    · refine (take_yes b p x.toNat s w hc hlt (by rw [hx])).mono fun e w' ⟨he, hc', ho⟩ => ?_
      exact ⟨ho, .inl ⟨s.data.toList.drop (p + 1), by rw [← hR, hd, hx], ⟨_, hc', rfl⟩, he⟩⟩
    · refine (take_no b p x.toNat s w hc hlt (fun h => hx (UInt8.toNat_inj.1 (by omega)))).mono fun e w' ⟨he, n, hw⟩ => ?_
      subst hw
      exact ⟨(Only.refl b w).drewN n, .inr ⟨fun t => by rw [← hR, hd]; intro h; exact hx (List.cons.inj h).1, ⟨_, hc.drewN n, hR⟩, he⟩⟩

/-- What 'digits' leaves. -/
def DigR (w : World) (b : Nat) (s : ByteArray) (R : List UInt8) (e : Ending) (w' : World) : Prop :=
  Only b w w' ∧ ((digOk (R.takeWhile isDig) = true ∧ CurR w' b s (R.drop (R.takeWhile isDig).length) ∧ e = .returned (.tuple #[.int .i64 (dval (R.takeWhile isDig) 0), .bool true])) ∨
    (digOk (R.takeWhile isDig) = false ∧ (∃ R', CurR w' b s R') ∧ e = .returned (.tuple #[.int .i64 0, .bool false])))
theorem digits_R (b : Nat) (s : ByteArray) (R : List UInt8) (w : World) (h : CurR w b s R) :
    Calls Tryd.prog 70 #[.pointer (some ⟨b, 0, none⟩)] w (DigR w b s R) := by
  obtain ⟨p, hc, rfl⟩ := h
  refine (digits_any b p s w hc).mono fun e w' ⟨q, hc', ho, hh⟩ => ⟨ho, ?_⟩
  rcases hh with ⟨h1, h2, h3⟩ | ⟨h1, h3⟩
  · exact .inl ⟨h1, ⟨q, hc', by rw [h2, ← List.drop_drop]⟩, h3⟩
  · exact .inr ⟨h1, ⟨_, q, hc', rfl⟩, h3⟩

theorem num_no {r : List UInt8} (h : (r.headD 0 == 45) = false) : nrun r = r.takeWhile isDig ∧ numOk (nrun r) = digOk (r.takeWhile isDig) ∧ numV (nrun r) = dval (r.takeWhile isDig) 0 := by
  have e : nrun r = r.takeWhile isDig := by rw [nrun, h]; simp
  have h' := head_no (takeWhile_all r)
  rw [e]
  exact ⟨rfl, by rw [numOk, h']; simp, by rw [numV, h']; simp⟩
theorem num_yes (t : List UInt8) : nrun (45 :: t) = 45 :: t.takeWhile isDig ∧ numOk (nrun (45 :: t)) = (digOk (t.takeWhile isDig) && decide (0 < dval (t.takeWhile isDig) 0)) ∧ numV (nrun (45 :: t)) = 0 - dval (t.takeWhile isDig) 0 := by
  have e : nrun (45 :: t) = 45 :: t.takeWhile isDig := by simp [nrun]
  rw [e]
  exact ⟨rfl, by unfold numOk; rw [if_pos (by rfl)]; rfl, by simp [numV]⟩

/-- What 'number' leaves. -/
def NumR (w : World) (b : Nat) (s : ByteArray) (R : List UInt8) (e : Ending) (w' : World) : Prop :=
  Only b w w' ∧ ((numOk (nrun R) = true ∧ CurR w' b s (R.drop (nrun R).length) ∧ e = .returned (.tuple #[.int .i64 (numV (nrun R)), .bool true])) ∨
    (numOk (nrun R) = false ∧ (∃ R', CurR w' b s R') ∧ e = .returned (.tuple #[.int .i64 0, .bool false])))

set_option maxHeartbeats 1000000 in
theorem number_R (b : Nat) (s : ByteArray) (R : List UInt8) (w : World) (h : CurR w b s R) :
    Calls Tryd.prog 63 #[.pointer (some ⟨b, 0, none⟩)] w (NumR w b s R) := by
  go_enter Tryd.func63, Tryd.ntmps63
  go_wp2_with fail
  refine (take_R b s R 45 w h).mono ?_
  rintro e w1 ⟨ho1, ⟨t, hR, hc1, rfl⟩ | ⟨hR, hc1, rfl⟩⟩
  · obtain ⟨n1, n2, n3⟩ := num_yes t
    go_wp2_with fail
    refine (digits_R b s t _ hc1).mono ?_
    rintro e w2 ⟨ho2, ⟨hd, hc2, rfl⟩ | ⟨hd, hc2, rfl⟩⟩
    · have hf := digOk_facts hd
      have HD := Lib.hid hd
      have N1 := Lib.hid n1
      have N2 := Lib.hid n2
      have N3 := Lib.hid n3
      have HR := Lib.hid hR
      clear hd n1 n2 n3 hR
      obtain ⟨v, hv⟩ : ∃ v, Hid (dval (t.takeWhile isDig) 0 = v) := ⟨_, Lib.hid rfl⟩
      rw [hv.out] at hf ⊢
      have hf1 := hf.2.2.2.1
      have hf2 := hf.2.2.2.2
      clear hf
      by_cases h0 : v = 0
      · have hz : (v == 0) = true := by simp [h0]
        have H0 := Lib.hid h0
        clear h0
        go_wp2
        go_ret2
        exact ⟨ho1.trans ho2, .inr ⟨by rw [HR.out, N2.out, hv.out, H0.out]; simp, ⟨_, hc2⟩, rfl⟩⟩
      · have hz : (v == 0) = false := by simp [h0]
        have H0 := Lib.hid h0
        clear h0
        go_wp2
        go_ret2
        exact ⟨ho1.trans ho2, .inl ⟨by rw [HR.out, N2.out, hv.out, HD.out]; have := H0.out; simp; omega, by rw [HR.out, N1.out]; simpa using hc2, by rw [HR.out, N3.out, hv.out, Int.zero_sub]; rfl⟩⟩
    · have HD := Lib.hid hd
      have N2 := Lib.hid n2
      have HR := Lib.hid hR
      clear hd n1 n2 n3 hR
      go_wp2
      go_ret2
      exact ⟨ho1.trans ho2, .inr ⟨by rw [HR.out, N2.out, HD.out]; rfl, hc2, rfl⟩⟩
  · have hh : (R.headD 0 == 45) = false := by
      cases R with
      | nil => rfl
      | cons c t =>
        simp only [List.headD_cons, beq_eq_false_iff_ne, ne_eq]
        intro he
        exact hR t (by rw [he])
    obtain ⟨n1, n2, n3⟩ := num_no hh
    have N1 := Lib.hid n1
    have N2 := Lib.hid n2
    have N3 := Lib.hid n3
    clear n1 n2 n3 hh hR
    go_wp2_with fail
    refine (digits_R b s R _ hc1).mono ?_
    rintro e w2 ⟨ho2, ⟨hd, hc2, rfl⟩ | ⟨hd, hc2, rfl⟩⟩
    · have HD := Lib.hid hd
      clear hd
      go_wp2
      go_ret2
      exact ⟨ho1.trans ho2, .inl ⟨by rw [N2.out]; exact HD.out, by rw [N1.out]; exact hc2, by rw [N3.out]; rfl⟩⟩
    · have HD := Lib.hid hd
      clear hd
      go_wp2
      go_ret2
      exact ⟨ho1.trans ho2, .inr ⟨by rw [N2.out]; exact HD.out, hc2, rfl⟩⟩

/-- What 'word' leaves. -/
def WordR (w : World) (b : Nat) (s : ByteArray) (R : List UInt8) (x : UInt8) (e : Ending) (w' : World) : Prop :=
  Only b w w' ∧ ((∃ t, R = x :: t ∧ numOk (nrun t) = true ∧ CurR w' b s (t.drop (nrun t).length) ∧ e = .returned (.tuple #[.int .i64 (numV (nrun t)), .bool true])) ∨
    ((∀ t, R = x :: t → numOk (nrun t) = false) ∧ (∃ R', CurR w' b s R') ∧ e = .returned (.tuple #[.int .i64 0, .bool false])))

set_option maxHeartbeats 1000000 in
theorem word_R (b : Nat) (s : ByteArray) (R : List UInt8) (x : UInt8) (w : World) (h : CurR w b s R) :
    Calls Tryd.prog 57 #[.pointer (some ⟨b, 0, none⟩), .int .u8 (x.toNat : Int)] w (WordR w b s R x) := by
  go_enter Tryd.func57, Tryd.ntmps57
  go_wp2_with fail
  refine (take_R b s R x w h).mono ?_
  rintro e w1 ⟨ho1, ⟨t, hR, hc1, rfl⟩ | ⟨hR, hc1, rfl⟩⟩
  · have HR := Lib.hid hR
    clear hR
    go_wp2_with fail
    refine (number_R b s t _ hc1).mono ?_
    rintro e w2 ⟨ho2, ⟨hd, hc2, rfl⟩ | ⟨hd, hc2, rfl⟩⟩
    · have HD := Lib.hid hd
      clear hd
      go_wp2
      go_ret2
      exact ⟨ho1.trans ho2, .inl ⟨t, HR.out, HD.out, hc2, rfl⟩⟩
    · have HD := Lib.hid hd
      clear hd
      go_wp2
      go_ret2
      exact ⟨ho1.trans ho2, .inr ⟨fun t' ht' => by rw [HR.out] at ht'; rw [← (List.cons.inj ht').2]; exact HD.out, hc2, rfl⟩⟩
  · have HR := Lib.hid hR
    clear hR
    go_wp2
    go_ret2
    exact ⟨ho1, .inr ⟨fun t ht => absurd ht (HR.out t), ⟨_, hc1⟩, rfl⟩⟩
end Go.Proofs.YtpdpcnblpcalaaaDoor
namespace Go.Proofs.YtpdpcnblpcalaaaDoor
open Go.RowKit Go.Lib
set_option linter.unusedVariables false

set_option maxHeartbeats 1000000 in
theorem vw_impl (z : Int) (w : World) (T : Tabs w) (h0 : -99999 ≤ z) (h1 : z ≤ 99999) :
    Calls Tryd.prog 43 #[.int .i64 z] w fun e w' => e = .returned (.string ⟨(bdW z).toArray⟩) ∧ Keep w w' := by
  have HT := Lib.hid T
  clear T
  by_cases hz : z = -9999
  · have hzd : (z == -9999) = true := beq_iff_eq.2 hz
    have E : Hid ((⟨(bdW z).toArray⟩ : ByteArray) = ⟨#[47]⟩) := Lib.hid (by rw [bdW, if_pos hz])
    clear hz
    go_enter Tryd.func43, Tryd.ntmps43
    go_wp2
    go_ret
    exact ⟨retS E.out.symm, Keep.refl _⟩
  · have hzd : (z == -9999) = false := beq_eq_false_iff_ne.2 hz
    have E : Hid ((⟨(bdW z).toArray⟩ : ByteArray) = dtx z) := Lib.hid (by rw [bdW, if_neg hz, dtx])
    clear hz
    go_enter Tryd.func43, Tryd.ntmps43
    go_wp2_with fail
    refine (itoa_any _ _ HT.out h0 h1).mono ?_
    rintro e w1 ⟨rfl, k1⟩
    go_wp2
    go_ret
    exact ⟨retS E.out.symm, k1⟩
set_option maxHeartbeats 1000000 in
theorem sw_impl (p : ByteArray) (w : World) (T : Tabs w) (hp : p.size ≤ 1048576) :
    Calls Tryd.prog 44 #[.string p] w fun e w' => e = .returned (.string ⟨(61 :: itoa (bsL p.data.toList : Int)).toArray⟩) ∧ Keep w w' := by
  have HT := Lib.hid T
  clear T
  have HB := Lib.hid (fun W => bs_impl p W (by omega))
  have hlt := bsL_lt p.data.toList
  generalize bsL p.data.toList = n at *
  have hds := dtx_size (n := (n : Int)) (by omega) (by omega)
  have E : Hid ((⟨#[61]⟩ : ByteArray) ++ dtx n = ⟨(61 :: itoa (n : Int)).toArray⟩) := Lib.hid (bytes_eq (by simp [dtx_list]))
  go_enter Tryd.func44, Tryd.ntmps44
  go_wp2_with fail
  refine (HB.out _).mono ?_
  rintro e w1 ⟨rfl, rfl⟩
  go_wp2_with fail
  refine (itoa_any _ _ HT.out (by omega) (by omega)).mono ?_
  rintro e w1 ⟨rfl, k1⟩
  go_wp2
  go_ret
  exact ⟨retS E.out, k1⟩
set_option maxRecDepth 100000 in
set_option maxHeartbeats 2000000 in
theorem rp_impl (a : Option Addr) (c : Nat) (s t f : Int) (zs : List Int) (k : Nat) (w : World) (h : Ls w a zs) (hk : k < zs.length) (hm : zs.length ≤ 1048576) (hf : -200000 ≤ f ∧ f ≤ 200000) :
    Calls Tryd.prog 41 #[.agg #[.int .i64 s, .int .i64 t, .int .i64 f, .slice a zs.length c], .int .i64 (k : Int)] w fun e w' => e = .returned (.agg #[.int .i64 s, .int .i64 (f + (k : Int)), .int .i64 t, .int .i64 (zs.getD k 0)]) ∧ Keep w w' := by
  obtain ⟨b, off, hae, hb, hc⟩ := h.all (by omega)
  have cz := hc k hk
  subst hae
  generalize zs.getD k 0 = z at *
  have hfk : IntKind.i64.wrap (f + (k : Int)) = f + (k : Int) := IntWalk.i64_in _ (by omega)
  clear hc h
  obtain ⟨w1, hw1⟩ : ∃ w1, w1 = w.alloc (.cells #[.int .i64 s, .int .i64 t, .int .i64 f, .slice (some ⟨b, off, none⟩) zs.length c] 44) := ⟨_, rfl⟩
  have K1 : Keep w w1 := by rw [hw1]; exact (Keep.refl w).alloc _
  have hs1 : w1.heap.size = w.heap.size + 1 := by rw [hw1]; simp
  have c0 : w1.cell? ⟨w.heap.size, 0, none⟩ = some (.int .i64 s) := by rw [hw1]; exact World.cell?_alloc_new w _ _ 0
  have c1 : w1.cell? ⟨w.heap.size, 1, none⟩ = some (.int .i64 t) := by rw [hw1]; exact World.cell?_alloc_new w _ _ 1
  have c2 : w1.cell? ⟨w.heap.size, 2, none⟩ = some (.int .i64 f) := by rw [hw1]; exact World.cell?_alloc_new w _ _ 2
  have c3 : w1.cell? ⟨w.heap.size, 3, none⟩ = some (.slice (some ⟨b, off, none⟩) zs.length c) := by rw [hw1]; exact World.cell?_alloc_new w _ _ 3
  have c4 := K1.cell cz
  have kk0 : (k : Int) < (zs.length : Int) := by omega
  have HS := Lib.hid hs1
  have K1w := Lib.hid K1
  clear cz hb K1
  go_enter Tryd.func41, Tryd.ntmps41
  go_wp2_with fail
  rw [← hw1]
  clear hw1
  generalize w.heap.size = bx at *
  have hne : bx + 1 ≠ bx := by omega
  go_region_held3 (fun w' => Keep w1 w' ∧ w'.cell? ⟨bx, 0, none⟩ = some (.int .i64 s) ∧ w'.cell? ⟨bx, 1, none⟩ = some (.int .i64 t) ∧ w'.cell? ⟨bx, 2, none⟩ = some (.int .i64 f) ∧ w'.cell? ⟨bx, 3, none⟩ = some (.slice (some ⟨b, off, none⟩) zs.length c) ∧ w'.cell? ⟨b, off + k, none⟩ = some (.int .i64 z))
    ((go_split_ands; refine (fun hK => ⟨hK, hK.cell c0, hK.cell c1, hK.cell c2, hK.cell c3, hK.cell c4⟩ : Keep w1 _ → _) ?_; repeat' (first | with_reducible assumption | with_reducible exact Keep.refl _ | with_reducible refine Keep.drew ?_ | with_reducible refine Keep.drewN ?_ _ | with_reducible refine Keep.alloc ?_ _ | with_reducible refine Keep.setCell ?_ (by simp <;> omega) _)))
    (fail)
  all_goals
    go_wp2
    refine bodyPost_ret (v := .agg #[.int .i64 s, .int .i64 (f + (k : Int)), .int .i64 t, .int .i64 z]) (by simp [results, Tryd.results41, go_sem, hs1]) rfl ⟨rfl, K1w.out.trans ?_⟩
    repeat' (first | with_reducible exact Keep.refl _ | with_reducible refine Keep.drew ?_ | with_reducible refine Keep.drewN ?_ _ | with_reducible refine Keep.alloc ?_ _ | with_reducible refine Keep.setCell ?_ (by simp <;> omega) _)
set_option maxRecDepth 100000 in
set_option maxHeartbeats 3200000 in
theorem bv_impl (a : Option Addr) (c : Nat) (s t f : Int) (zs : List Int) (w : World) (h : Ls w a zs) (hm : zs.length ≤ 1048576) (hf : -200000 ≤ f ∧ f ≤ 200000) :
    Calls Tryd.prog 21 #[.agg #[.int .i64 s, .int .i64 t, .int .i64 f, .slice a zs.length c]] w fun e w' => e = .returned (.bool (btOk s t f zs)) ∧ Keep w w' := by
  have HF : Hid (btOk s t f zs = (btA s t f zs && (saB s t f zs.length && decide (f + (zs.length : Int) - 1 ≤ 999)))) := Lib.hid rfl
  have hfk : IntKind.i64.wrap (f + (zs.length : Int)) = f + (zs.length : Int) := IntWalk.i64_in _ (by omega)
  have hfk1 : IntKind.i64.wrap (f + (zs.length : Int) - 1) = f + (zs.length : Int) - 1 := IntWalk.i64_in _ (by omega)
  have HSA := Lib.hid (fun W => sa_impl s t f zs.length W)
  have HDV := Lib.hid (fun W => dval_any (f + (zs.length : Int) - 1) W)
  have HDQ : Hid (saB s t f zs.length = true → inB (f + (zs.length : Int) - 1) 0 999 = decide (f + (zs.length : Int) - 1 ≤ 999)) := Lib.hid (fun h9 => by
    obtain ⟨_, _, hf, m, hm, hm1, hm2⟩ := saB_facts h9
    rw [inB, decide_eq_true (by omega)]; rfl)
  have H0 := Lib.hid (World.cell?_alloc_new w #[.int .i64 s, .int .i64 t, .int .i64 f, .slice a zs.length c] 44 0)
  have H1 := Lib.hid (World.cell?_alloc_new w #[.int .i64 s, .int .i64 t, .int .i64 f, .slice a zs.length c] 44 1)
  have H2 := Lib.hid (World.cell?_alloc_new w #[.int .i64 s, .int .i64 t, .int .i64 f, .slice a zs.length c] 44 2)
  have H3 := Lib.hid (World.cell?_alloc_new w #[.int .i64 s, .int .i64 t, .int .i64 f, .slice a zs.length c] 44 3)
  obtain ⟨sa, hsa⟩ : ∃ x, saB s t f zs.length = x := ⟨_, rfl⟩
  rw [hsa] at HF HSA HDQ
  clear hsa
  go_enter Tryd.func21, Tryd.ntmps21
  go_wp2_with fail
  refine (HSA.out _).mono ?_
  rintro e w1 ⟨rfl, rfl⟩
  cases sa
  case' false =>
    go_wp2
    go_ret
    exact ⟨retB (by rw [HF.out]; simp), (Keep.refl w).alloc _⟩
  rw [HDQ.out rfl] at HDV
  obtain ⟨dv, hdv⟩ : ∃ x, decide (f + (zs.length : Int) - 1 ≤ 999) = x := ⟨_, rfl⟩
  rw [hdv] at HDV HF
  clear hdv HDQ
  go_wp2_with fail
  refine (HDV.out _).mono ?_
  rintro e w1 ⟨rfl, rfl⟩
  cases dv
  case' false =>
    go_wp2
    go_ret
    exact ⟨retB (by rw [HF.out]; simp), (Keep.refl w).alloc _⟩
  have HF2 : Hid (btOk s t f zs = btA s t f zs) := Lib.hid (by rw [HF.out]; simp)
  clear HF HSA HDV
  go_wp2_with fail
  go_loopw [30] (fun i wr => ∃ k : Nat, k ≤ zs.length ∧ i = .int .i64 k ∧ Hid (∀ j, j < k → btV s t f zs j = true) ∧ Keep (w.alloc (.cells #[.int .i64 s, .int .i64 t, .int .i64 f, .slice a zs.length c] 44)) wr) (fun i _ => zs.length - (RowKit.intOf i).toNat)
  case atStart => exact ⟨0, by omega, rfl, Lib.hid (fun j hj => absurd hj (by omega)), Keep.refl _⟩
  case round =>
    obtain ⟨k, hk, rfl, HA, hK⟩ := hrel
    have hKw : Keep w wr := ((Keep.refl w).alloc _).trans hK
    by_cases hlt : k < zs.length
    · have HL := Lib.hid (h.keep hKw)
      obtain ⟨b, off, hae, hb, hc⟩ := HL.out.all (by omega)
      have cz := hc k hlt
      have HRP := Lib.hid (fun W (hw : Keep wr W) => rp_impl a c s t f zs k W (HL.out.keep hw) hlt hm hf)
      have HV : Hid (btV s t f zs k = (decide (zs.getD k 0 = -9999) || rOk s (f + (k : Int)) t (zs.getD k 0))) := Lib.hid rfl
      have HNO := Lib.hid (fun h9 : btV s t f zs k = false => (show btOk s t f zs = false by rw [HF2.out, btA_no hlt h9]))
      have HYES := Lib.hid (fun h9 : btV s t f zs k = true => fun j (hj : j < k + 1) => (show btV s t f zs j = true by
        by_cases e : j < k
        · exact HA.out j e
        · obtain rfl : j = k := by omega
          exact h9))
      generalize zs.getD k 0 = z at *
      clear hc HA HL
      by_cases hz : z = -9999
      · have hzd : (z != -9999) = false := by simp [hz]
        have HY := Lib.hid (HYES.out (by rw [HV.out, hz]; rfl))
        clear HNO HYES HV hz HRP
        subst hae
        go_wp2
        go_roundw
        case rel => exact ⟨k + 1, by omega, by go_num, HY, hK⟩
        case measure => simp [RowKit.intOf]; omega
      · have hzd : (z != -9999) = true := by simp [hz]
        have HV2 : Hid (btV s t f zs k = rOk s (f + (k : Int)) t z) := Lib.hid (by rw [HV.out, decide_eq_false hz]; rfl)
        obtain ⟨r, hr⟩ : ∃ r, rOk s (f + (k : Int)) t z = r := ⟨_, rfl⟩
        have HRV := Lib.hid (fun W => rv_impl s (f + (k : Int)) t z W)
        rw [hr] at HRV HV2
        have c0 := hK.cell H0.out
        have c1 := hK.cell H1.out
        have c2 := hK.cell H2.out
        have c3 := hK.cell H3.out
        clear hr HV hz
        subst hae
        go_wp2_with fail
        refine (HRP.out _ (Keep.refl _)).mono ?_
        rintro e w1 ⟨rfl, k1⟩
        go_wp2_with fail
        refine (HRV.out _).mono ?_
        rintro e w2 ⟨rfl, k2⟩
        have hK1 := (hK.trans k1).trans k2
        cases r
        · have HN := Lib.hid (HNO.out HV2.out)
          go_wp2
          go_ret
          exact ⟨retB HN.out.symm, ((Keep.refl w).alloc _).trans hK1⟩
        · have HY := Lib.hid (HYES.out HV2.out)
          go_wp2
          go_roundw
          case rel => exact ⟨k + 1, by omega, by go_num, HY, hK1⟩
          case measure => simp [RowKit.intOf]; omega
    · obtain rfl : k = zs.length := by omega
      have HE : Hid (btOk s t f zs = true) := Lib.hid (by rw [HF2.out]; exact btA_yes HA.out)
      clear HA HF2
      go_wp2
      go_ret
      exact ⟨retB HE.out.symm, hKw⟩
set_option maxRecDepth 100000 in
set_option maxHeartbeats 3200000 in
theorem bx_impl (a : Option Addr) (c : Nat) (s t f : Int) (zs : List Int) (w : World) (T : Tabs w) (h : Ls w a zs) (hok : btOk s t f zs = true) :
    Calls Tryd.prog 22 #[.agg #[.int .i64 s, .int .i64 t, .int .i64 f, .slice a zs.length c]] w fun e w' => e = .returned (.string ⟨(btL s t f zs).toArray⟩) ∧ Keep w w' := by
  obtain ⟨hs, ht, hf, hl, hz⟩ := btOk_facts hok
  have HP := Lib.hid (bdP_len hs ht hf hz)
  have HZ := Lib.hid hz
  have s1 := dtx_size (n := s) (by omega) (by omega)
  have s2 := dtx_size (n := t) (by omega) (by omega)
  have s3 := dtx_size (n := f) (by omega) (by omega)
  have HF : Hid ((⟨#[98]⟩ : ByteArray) ++ dtx s ++ ⟨#[32, 107]⟩ ++ dtx t ++ ⟨#[32, 100]⟩ ++ dtx f = ⟨(bdP s t f zs 0).toArray⟩) := Lib.hid (bytes_eq (by simp [dtx_list, bdP_zero, bdF]))
  have z1 : ¬ 9223372036854775807 < 1 + (dtx s).size := by omega
  have z2 : ¬ 9223372036854775807 < 1 + (dtx s).size + 2 := by omega
  have z3 : ¬ 9223372036854775807 < 1 + (dtx s).size + 2 + (dtx t).size := by omega
  have z4 : ¬ 9223372036854775807 < 1 + (dtx s).size + 2 + (dtx t).size + 2 := by omega
  have z5 : ¬ 9223372036854775807 < 1 + (dtx s).size + 2 + (dtx t).size + 2 + (dtx f).size := by omega
  clear hz hok
  obtain ⟨w1, hw1⟩ : ∃ w1, w1 = w.alloc (.cells #[.int .i64 s, .int .i64 t, .int .i64 f, .slice a zs.length c] 44) := ⟨_, rfl⟩
  have K1 : Keep w w1 := by rw [hw1]; exact (Keep.refl w).alloc _
  have c0 : w1.cell? ⟨w.heap.size, 0, none⟩ = some (.int .i64 s) := by rw [hw1]; exact World.cell?_alloc_new w _ _ 0
  have c1 : w1.cell? ⟨w.heap.size, 1, none⟩ = some (.int .i64 t) := by rw [hw1]; exact World.cell?_alloc_new w _ _ 1
  have c2 : w1.cell? ⟨w.heap.size, 2, none⟩ = some (.int .i64 f) := by rw [hw1]; exact World.cell?_alloc_new w _ _ 2
  have c3 : w1.cell? ⟨w.heap.size, 3, none⟩ = some (.slice a zs.length c) := by rw [hw1]; exact World.cell?_alloc_new w _ _ 3
  have HT := Lib.hid (T.keep K1)
  have HLs := Lib.hid (h.keep K1)
  have K1w := Lib.hid K1
  clear K1 T h
  go_enter Tryd.func22, Tryd.ntmps22
  go_wp2_with fail
  rw [← hw1]
  clear hw1
  generalize w.heap.size = bx at *
  go_region_held3 (fun w' => Keep w1 w' ∧ w'.cell? ⟨bx, 0, none⟩ = some (.int .i64 s) ∧ w'.cell? ⟨bx, 1, none⟩ = some (.int .i64 t) ∧ w'.cell? ⟨bx, 2, none⟩ = some (.int .i64 f))
    ((go_split_ands; refine (fun hK => ⟨hK, hK.cell c0, hK.cell c1, hK.cell c2⟩ : Keep w1 _ → _) ?_; (repeat' (first | with_reducible assumption | with_reducible exact Keep.refl _ | with_reducible refine Keep.drew ?_ | with_reducible refine Keep.drewN ?_ _ | with_reducible refine Keep.alloc ?_ _ | with_reducible refine Keep.trans ?_ hk))))
    (first | (go_at_call 42; refine (itoa_any _ _ (HT.out.keep (by (repeat' (first | with_reducible assumption | with_reducible exact Keep.refl _ | with_reducible refine Keep.drew ?_ | with_reducible refine Keep.drewN ?_ _ | with_reducible refine Keep.alloc ?_ _ | with_reducible refine Keep.trans ?_ hk)))) (by omega) (by omega)).mono ?_; rintro e w' ⟨rfl, hk⟩; go_split_ands; have hK : Keep w1 w' := Keep.trans (by (repeat' (first | with_reducible assumption | with_reducible exact Keep.refl _ | with_reducible refine Keep.drew ?_ | with_reducible refine Keep.drewN ?_ _ | with_reducible refine Keep.alloc ?_ _ | with_reducible refine Keep.trans ?_ hk))) hk))
  all_goals
    have c3' := hK.cell c3
    have HTw := Lib.hid (HT.out.keep hK)
    have HLw := Lib.hid (HLs.out.keep hK)
    have K2 := K1w.out.trans hK
    clear hK HT HLs K1w c0 c1 c2 c3 z1 z2 z3 z4 z5
    go_wp2_with fail
    rw [HF.out]
    go_loopw [3, 23] (fun u i wr => ∃ k : Nat, k ≤ zs.length ∧ i = .int .i64 k ∧ u = .string ⟨(bdP s t f zs k).toArray⟩ ∧ Keep w' wr) (fun _ i _ => zs.length - (RowKit.intOf i).toNat)
    case atStart => exact ⟨0, by omega, rfl, rfl, Keep.refl _⟩
    case round =>
      obtain ⟨k, hk, rfl, rfl, hKr⟩ := hrel
      by_cases hlt : k < zs.length
      · obtain ⟨b, off, hae, hb, hc⟩ := (HLw.out.keep hKr).all (by omega)
        have cz := hc k hlt
        subst hae
        have hzk := HZ.out k hlt
        have HS := Lib.hid (bdP_succ s t f hlt)
        have hpl := HP.out k hk
        have HSZ := bts_size (bdP s t f zs k)
        rw [← HSZ] at hpl
        have HAP := Lib.hid (bts_app (bdP s t f zs k))
        obtain ⟨q, hq⟩ : ∃ q, bdP s t f zs (k + 1) = q := ⟨_, rfl⟩
        have HQ := Lib.hid hq
        rw [hq] at HS
        clear hq
        obtain ⟨p, hp⟩ : ∃ p : ByteArray, (⟨(bdP s t f zs k).toArray⟩ : ByteArray) = p := ⟨_, rfl⟩
        rw [hp] at hpl HAP ⊢
        generalize bdP s t f zs k = pl at *
        generalize zs.getD k 0 = z at *
        have HVW := Lib.hid (vw_impl z wr (HTw.out.keep hKr) (by omega) (by omega))
        have hvl := bdW_len (v := z) (by omega) (by omega)
        have HSW := bts_size (bdW z)
        rw [← HSW] at hvl
        have HE : Hid (p ++ (⟨#[32]⟩ ++ ⟨(bdW z).toArray⟩) = ⟨q.toArray⟩) := Lib.hid (by
          have e1 : (⟨#[32]⟩ ++ ⟨(bdW z).toArray⟩ : ByteArray) = ⟨(32 :: bdW z).toArray⟩ := bytes_eq (by simp)
          rw [e1, HAP.out, HS.out])
        generalize (⟨(bdW z).toArray⟩ : ByteArray) = vz at *
        clear hp HSZ hc HZ HP HSW HS HAP hzk
        go_wp2_with fail
        refine HVW.out.mono ?_
        rintro e w4 ⟨rfl, k4⟩
        go_wp2_with fail
        rw [HE.out]
        go_roundw
        case rel => exact ⟨k + 1, by omega, by go_num, by rw [HQ.out], hKr.trans k4⟩
        case measure => simp [RowKit.intOf]; omega
      · obtain rfl : k = zs.length := by omega
        have h1 := HP.out zs.length (Nat.le_refl _)
        have HB := Lib.hid (bdP_all s t f (Nat.le_refl zs.length))
        rw [bdP_all s t f (Nat.le_refl _)] at h1 ⊢
        have HSZ := bts_size (bdL s t f zs)
        have HLB := bts_list (bdL s t f zs)
        have HAP := Lib.hid (bts_app (bdL s t f zs))
        have HBT : Hid (btL s t f zs = bdL s t f zs ++ 32 :: 61 :: itoa (bsL (bdL s t f zs) : Int)) := Lib.hid rfl
        obtain ⟨p, hp⟩ : ∃ p : ByteArray, (⟨(bdL s t f zs).toArray⟩ : ByteArray) = p := ⟨_, rfl⟩
        rw [hp] at HSZ HLB HAP ⊢
        have hps : p.size ≤ 200 := by omega
        have HSW := Lib.hid (sw_impl p wr (HTw.out.keep hKr) (by omega))
        rw [HLB] at HSW
        have hlt2 := bsL_lt (bdL s t f zs)
        generalize bdL s t f zs = L at *
        generalize bsL L = n at *
        have hsl : (⟨(61 :: itoa (n : Int)).toArray⟩ : ByteArray).size ≤ 7 := by
          rw [bts_size, List.length_cons]
          have := itoa_len (n := (n : Int)) (by omega) (by omega)
          omega
        have HE : Hid (p ++ ⟨#[32]⟩ ++ ⟨(61 :: itoa (n : Int)).toArray⟩ = ⟨(btL s t f zs).toArray⟩) := Lib.hid (by
          have e1 := HAP.out [32]
          have e0 : (⟨[32].toArray⟩ : ByteArray) = ⟨#[32]⟩ := rfl
          rw [e0] at e1
          rw [e1, bts_app, HBT.out]; simp)
        generalize (⟨(61 :: itoa (n : Int)).toArray⟩ : ByteArray) = sw at *
        clear hp HSZ HLB HAP HBT h1 HB HP HZ
        go_wp2_with fail
        refine HSW.out.mono ?_
        rintro e w4 ⟨rfl, k4⟩
        go_wp2
        go_ret
        exact ⟨retS HE.out, (K2.trans hKr).trans k4⟩
set_option maxRecDepth 100000 in
set_option maxHeartbeats 3200000 in
theorem bt_impl (a : Option Addr) (c : Nat) (s t f : Int) (zs : List Int) (w : World) (T : Tabs w) (h : Ls w a zs) (hm : zs.length ≤ 1048576) (hf : -200000 ≤ f ∧ f ≤ 200000) :
    Calls Tryd.prog 7 #[.int .i64 s, .int .i64 t, .int .i64 f, .slice a zs.length c] w fun e w' => e = .returned (.string (btT s t f zs)) ∧ Keep w w' := by
  obtain ⟨w1, hw1⟩ : ∃ w1, w1 = w.alloc (.cells #[.int .i64 s, .int .i64 t, .int .i64 f, .slice a zs.length c] 44) := ⟨_, rfl⟩
  have K1 : Keep w w1 := by rw [hw1]; exact (Keep.refl w).alloc _
  have c0 : w1.cell? ⟨w.heap.size, 0, none⟩ = some (.int .i64 s) := by rw [hw1]; exact World.cell?_alloc_new w _ _ 0
  have c1 : w1.cell? ⟨w.heap.size, 1, none⟩ = some (.int .i64 t) := by rw [hw1]; exact World.cell?_alloc_new w _ _ 1
  have c2 : w1.cell? ⟨w.heap.size, 2, none⟩ = some (.int .i64 f) := by rw [hw1]; exact World.cell?_alloc_new w _ _ 2
  have c3 : w1.cell? ⟨w.heap.size, 3, none⟩ = some (.slice a zs.length c) := by rw [hw1]; exact World.cell?_alloc_new w _ _ 3
  have HV := Lib.hid (bv_impl a c s t f zs w1 (h.keep K1) hm hf)
  have HX := Lib.hid (fun W (hk : Keep w1 W) => bx_impl a c s t f zs W (T.keep (K1.trans hk)) (h.keep (K1.trans hk)))
  obtain ⟨ok, hok⟩ : ∃ x, btOk s t f zs = x := ⟨_, rfl⟩
  rw [hok] at HV HX
  have K1w := Lib.hid K1
  clear T h K1
  cases ok
  · have HT := Lib.hid (btT_no hok)
    clear hok HX
    go_enter Tryd.func7, Tryd.ntmps7
    go_wp2_with fail
    rw [← hw1]
    refine HV.out.mono ?_
    rintro e w2 ⟨rfl, k1⟩
    clear hw1
    go_wp2
    go_ret
    exact ⟨retS HT.out.symm, K1w.out.trans k1⟩
  · have HT := Lib.hid (btT_yes hok)
    clear hok
    go_enter Tryd.func7, Tryd.ntmps7
    go_wp2_with fail
    rw [← hw1]
    refine HV.out.mono ?_
    rintro e w2 ⟨rfl, k1⟩
    clear hw1
    replace c0 := k1.cell c0
    replace c1 := k1.cell c1
    replace c2 := k1.cell c2
    replace c3 := k1.cell c3
    go_wp2_with fail
    refine (HX.out _ k1 (by first | rfl | trivial)).mono ?_
    rintro e w3 ⟨rfl, k3⟩
    go_wp2
    go_ret
    exact ⟨retS HT.out.symm, (K1w.out.trans k1).trans k3⟩
end Go.Proofs.YtpdpcnblpcalaaaDoor
namespace Go.Proofs.YtpdpcnblpcalaaaDoor
open Go.RowKit
set_option linter.unusedVariables false

def DoneR (w : World) (b : Nat) (s : ByteArray) (R : List UInt8) (e : Ending) (w' : World) : Prop :=
  Only b w w' ∧ CurR w' b s R ∧ e = .returned (.bool R.isEmpty)
theorem done_R (b : Nat) (s : ByteArray) (R : List UInt8) (w : World) (h : CurR w b s R) :
    Calls Tryd.prog 64 #[.pointer (some ⟨b, 0, none⟩)] w (DoneR w b s R) := by
  obtain ⟨p, hc, hR⟩ := h
  have hp : p ≤ s.size := hc.2.2.2.2.1
  by_cases he : p = s.size
  · subst he
    have hR' : R = [] := by rw [← hR]; exact drop_none (Nat.le_refl _)
    refine (done_yes b s w hc).mono fun e w' h => ?_
    obtain ⟨he, n, hw⟩ := h
    subst hw
    exact ⟨(Only.refl b w).drewN n, ⟨_, hc.drewN n, hR⟩, by rw [he, hR']; rfl⟩
  · have hlt : p < s.size := by omega
    have hd := drop_some hlt
    refine (done_no b p s w hc hlt).mono fun e w' h => ?_
    obtain ⟨he, n, hw⟩ := h
    subst hw
    exact ⟨(Only.refl b w).drewN n, ⟨_, hc.drewN n, hR⟩, by rw [he, ← hR, hd]; rfl⟩
/-- A value's word at the beginning of a text: the value, and what is left. -/
def vAt (R : List UInt8) : Option (Int × List UInt8) :=
  match R with
  | 47 :: t => some (-9999, t)
  | _ => if numOk (nrun R) && decide (numV (nrun R) ≠ -9999) then some (numV (nrun R), R.drop (nrun R).length) else none
theorem vAt_no {R : List UInt8} (h : ∀ t, R ≠ 47 :: t) : vAt R = if numOk (nrun R) && decide (numV (nrun R) ≠ -9999) then some (numV (nrun R), R.drop (nrun R).length) else none := by
  unfold vAt
  split
  · exact absurd rfl (h _)
  · rfl
def VonR (w : World) (b : Nat) (s : ByteArray) (R : List UInt8) (e : Ending) (w' : World) : Prop :=
  Only b w w' ∧ ((∃ v R', vAt R = some (v, R') ∧ CurR w' b s R' ∧ e = .returned (.tuple #[.int .i64 v, .bool true])) ∨
    (vAt R = none ∧ (∃ R', CurR w' b s R') ∧ ∃ v, e = .returned (.tuple #[.int .i64 v, .bool false])))
set_option maxHeartbeats 1000000 in
theorem von_R (b : Nat) (s : ByteArray) (R : List UInt8) (w : World) (h : CurR w b s R) :
    Calls Tryd.prog 65 #[.pointer (some ⟨b, 0, none⟩)] w (VonR w b s R) := by
  go_enter Tryd.func65, Tryd.ntmps65
  go_wp2_with fail
  refine (take_R b s R 47 w h).mono ?_
  rintro e w1 ⟨ho1, ⟨t, hR, hc1, rfl⟩ | ⟨hR, hc1, rfl⟩⟩
  · have HV : Hid (vAt R = some (-9999, t)) := Lib.hid (by rw [hR]; rfl)
    clear hR
    go_wp2
    go_ret2
    exact ⟨ho1, .inl ⟨_, _, HV.out, hc1, rfl⟩⟩
  · have HV : Hid (vAt R = if numOk (nrun R) && decide (numV (nrun R) ≠ -9999) then some (numV (nrun R), R.drop (nrun R).length) else none) := Lib.hid (vAt_no hR)
    clear hR
    go_wp2_with fail
    refine (number_R b s R _ hc1).mono ?_
    rintro e w2 ⟨ho2, ⟨hn, hc2, rfl⟩ | ⟨hn, hc2, rfl⟩⟩
    · have ho := ho1.trans ho2
      rw [hn] at HV
      clear hn
      generalize numV (nrun R) = v at *
      by_cases hv : v = -9999
      · have HV2 : Hid (vAt R = none) := Lib.hid (by rw [HV.out, hv]; rfl)
        have hvd : (v != -9999) = false := by simp [hv]
        clear HV hv
        go_wp2
        go_ret2
        exact ⟨ho, .inr ⟨HV2.out, ⟨_, hc2⟩, _, rfl⟩⟩
      · have HV2 : Hid (vAt R = some (v, R.drop (nrun R).length)) := Lib.hid (by rw [HV.out, decide_eq_true hv]; rfl)
        have hvd : (v != -9999) = true := by simp [hv]
        clear HV hv
        go_wp2
        go_ret2
        exact ⟨ho, .inl ⟨_, _, HV2.out, hc2, rfl⟩⟩
    · have ho := ho1.trans ho2
      have HV2 : Hid (vAt R = none) := Lib.hid (by rw [HV.out, hn]; rfl)
      clear HV hn
      go_wp2
      go_ret2
      exact ⟨ho, .inr ⟨HV2.out, hc2, _, rfl⟩⟩
end Go.Proofs.YtpdpcnblpcalaaaDoor
namespace Go.Proofs.YtpdpcnblpcalaaaDoor
open Go.RowKit
set_option linter.unusedVariables false

inductive Vals : List UInt8 → List Int → Prop
  | nil : Vals [] []
  | cons {t R' : List UInt8} {v : Int} {zs : List Int} : vAt t = some (v, R') → Vals R' zs → Vals (32 :: t) (v :: zs)
theorem vAt_len {t R' : List UInt8} {v : Int} (h : vAt t = some (v, R')) : R'.length ≤ t.length := by
  unfold vAt at h
  split at h
  · injection h with h; injection h with h1 h2; subst h2; simp
  · split at h
    · injection h with h; injection h with h1 h2; subst h2; rw [List.length_drop]; omega
    · exact absurd h (by simp)
/-- What is read so far, and what is left. -/
def Upto (R : List UInt8) (zs : List Int) (R' : List UInt8) : Prop := zs.length + R'.length ≤ R.length ∧ (∀ us, Vals R' us → Vals R (zs ++ us)) ∧ (∀ us, Vals R us → ∃ vs, us = zs ++ vs ∧ Vals R' vs)
theorem Upto.start (R : List UInt8) : Upto R [] R := ⟨by simp, fun us h => h, fun us h => ⟨us, rfl, h⟩⟩
theorem Upto.step {R t R' : List UInt8} {zs : List Int} {v : Int} (h : Upto R zs (32 :: t)) (hv : vAt t = some (v, R')) : Upto R (zs ++ [v]) R' := by
  obtain ⟨h1, h2, h3⟩ := h
  have := vAt_len hv
  refine ⟨by simp at h1 ⊢; omega, fun us hu => by simpa using h2 (v :: us) (.cons hv hu), fun us hu => ?_⟩
  obtain ⟨vs, e, hvs⟩ := h3 us hu
  cases hvs with
  | cons h4 h5 =>
    rw [hv] at h4
    injection h4 with h4; injection h4 with e1 e2
    subst e1; subst e2
    exact ⟨_, by rw [e]; simp, h5⟩
theorem Upto.fail {R t : List UInt8} {zs : List Int} (h : Upto R zs (32 :: t)) (hv : vAt t = none) : ∀ us, ¬ Vals R us := fun us hu => by
  obtain ⟨vs, e, hvs⟩ := h.2.2 us hu
  cases hvs with
  | cons h4 h5 => rw [hv] at h4; cases h4
theorem Upto.bad {R R' : List UInt8} {zs : List Int} (h : Upto R zs R') (h0 : R' ≠ []) (hv : ∀ t, R' ≠ 32 :: t) : ∀ us, ¬ Vals R us := fun us hu => by
  obtain ⟨vs, e, hvs⟩ := h.2.2 us hu
  cases hvs with
  | nil => exact h0 rfl
  | cons h4 h5 => exact hv _ rfl
theorem Upto.done {R : List UInt8} {zs : List Int} (h : Upto R zs []) : Vals R zs := by simpa using h.2.1 [] .nil
theorem CurR.grown2 {w w' : World} {b base : Nat} {s : ByteArray} {R : List UInt8} {row : Option Nat} (h : CurR w b s R) (hg : w.grownBy w' row) (hB : b < base) (hr : ∀ k, row = some k → base ≤ k) : CurR w' b s R := by
  obtain ⟨p, ⟨c0, c1, f1, hb, h1, h2⟩, hR⟩ := h
  have hbl := hg.block b hb (fun e => by have := hr b e.symm; omega)
  refine ⟨p, ⟨(World.cell?_of_block hbl).trans c0, (World.cell?_of_block hbl).trans c1, ?_, Nat.lt_of_lt_of_le hb hg.size, h1, h2⟩, hR⟩
  simp only [World.frozen?, hbl] at f1 ⊢
  exact f1
theorem CurR.short {w : World} {b : Nat} {s : ByteArray} {R : List UInt8} (h : CurR w b s R) : R.length ≤ 1048576 := by
  obtain ⟨p, ⟨_, _, _, _, h1, h2⟩, hR⟩ := h
  have e : s.data.toList.length = s.size := Array.length_toList
  rw [← hR, List.length_drop, e]; omega
def lenOf : Value → Nat
  | .slice _ n _ => n
  | _ => 0
theorem OwnI.len {w : World} {base : Nat} {v : Value} {zs : List Int} (h : OwnI w base v zs) : lenOf v = zs.length := by
  obtain ⟨a, c, rfl, _⟩ := h.ls
  rfl
def VlsR (w : World) (b : Nat) (s : ByteArray) (R : List UInt8) (e : Ending) (w' : World) : Prop :=
  Only b w w' ∧ ((∃ zs v, Vals R zs ∧ OwnI w' w.heap.size v zs ∧ CurR w' b s [] ∧ e = .returned (.tuple #[v, .bool true])) ∨
    ((∀ zs, ¬ Vals R zs) ∧ e = .returned (.tuple #[.slice none 0 0, .bool false])))
set_option maxRecDepth 100000 in
set_option maxHeartbeats 2000000 in
theorem values_R (b : Nat) (s : ByteArray) (R : List UInt8) (w : World) (h : CurR w b s R) :
    Calls Tryd.prog 59 #[.pointer (some ⟨b, 0, none⟩)] w (VlsR w b s R) := by
  have hBR := h.lt
  have hsh := h.short
  obtain ⟨i0, hi, hz0, hz1, hz2⟩ := info_parts infoInt'
  go_enter Tryd.func59, Tryd.ntmps59
  go_wp2_with fail
  go_loopw [4] (fun u wr => ∃ (zs : List Int) (v : Value) (R' : List UInt8), u = v ∧ Hid (Upto R zs R') ∧ Hid (OwnI wr w.heap.size v zs) ∧ Hid (CurR wr b s R') ∧ Only b w wr) (fun u _ => R.length - lenOf u)
  case atStart => exact ⟨[], _, R, rfl, Lib.hid (Upto.start R), Lib.hid ⟨rfl, .inl ⟨rfl, rfl⟩⟩, Lib.hid h, Only.refl b w⟩
  case round =>
    obtain ⟨zs, v, R', rfl, HU, HO, HC, hW⟩ := hrel
    have hsz := hW.size
    go_wp2_with fail
    refine (done_R b s R' _ HC.out).mono ?_
    rintro e w1 ⟨ho1, hc1, rfl⟩
    have hW1 := hW.trans ho1
    have HO1 := Lib.hid (HO.out.only ho1 hBR)
    clear HO HC hW hsz
    cases R' with
    | nil =>
      have HD := Lib.hid HU.out.done
      clear HU
      simp only [List.isEmpty_nil]
      go_wp2
      go_ret2
      exact ⟨hW1, .inl ⟨zs, _, HD.out, HO1.out, hc1, rfl⟩⟩
    | cons c t =>
      simp only [List.isEmpty_cons]
      go_wp2_with fail
      refine (take_R b s (c :: t) 32 _ hc1).mono ?_
      rintro e w2 ⟨ho2, ⟨t', hR, hc2, rfl⟩ | ⟨hR, hc2, rfl⟩⟩
      case' inr =>
        have HF := Lib.hid (HU.out.bad (by simp) hR)
        have hW2 := hW1.trans ho2
        clear HU hR hW1
        go_wp2
        go_ret2
        exact ⟨hW2, .inr ⟨HF.out, rfl⟩⟩
      rw [hR] at HU
      have hW2 := hW1.trans ho2
      have HO2 := Lib.hid (HO1.out.only ho2 hBR)
      clear HO1 hR hW1 ho1 ho2 hc1
      go_wp2_with fail
      refine (von_R b s t' _ hc2).mono ?_
      rintro e w3 ⟨ho3, ⟨y, R2, hv, hc3, rfl⟩ | ⟨hv, _, y, rfl⟩⟩
      case' inr =>
        have HF := Lib.hid (HU.out.fail hv)
        have hW3 := hW2.trans ho3
        clear HU hv hW2
        go_wp2
        go_ret2
        exact ⟨hW3, .inr ⟨HF.out, rfl⟩⟩
      have HU2 := Lib.hid (HU.out.step hv)
      have hW3 := hW2.trans ho3
      have HO3 := Lib.hid (HO2.out.only ho3 hBR)
      have HC3 := Lib.hid hc3
      have HL : Hid (zs.length + 1 ≤ 1048576 ∧ zs.length < R.length) := Lib.hid (by
        have := HU2.out.1
        rw [List.length_append, List.length_singleton] at this
        omega)
      clear HU hv hW2 HO2 ho3 hc3 hc2
      have hsz3 := hW3.size
      have hown : w3.ownsRow w.heap.size 3 1 _ zs.length (zs.map (Value.int .i64)) := HO3.out
      go_wp2_with (at_builtin; refine wpList_append_own _ rfl _ _ 23 rfl w.heap.size 3 i0 (.int .i64 0) 1 8 Tryd.underlying23 hi hz0 hz1 hz2 rfl (by decide) _ _ _ rfl (hown.alloc _) ⟨w3.heap.size, 0, none⟩ 1 1 [.int .i64 y] rfl rfl ?c1a ?c2a ?c3a ?c4a ?c5a ?_)
      case c1a =>
        intro j u hj
        match j, hj with
        | 0, hj => simp at hj; subst hj; simp [Addr.add]
      case c2a => first | rfl | (intro u hu; simp at hu; subst hu; rfl)
      case c3a => unfold maxLen; have := HL.out; omega
      case c4a => have := HL.out; omega
      case c5a => simp; omega
      intro v' w9 hown' hgrow hnil
      have hrow : ∀ g, _ = some g → w.heap.size ≤ g := fun g hg => (hown.lt g hg).1
      have HN : Hid (OwnI w9 w.heap.size v' (zs ++ [y])) := Lib.hid (by unfold OwnI; simpa using hown')
      have HC9 := Lib.hid ((HC3.out.keep ((Keep.refl w3).alloc _)).grown2 hgrow hBR hrow)
      have HG := Lib.hid ((hW3.alloc _).grown2 hgrow hrow)
      have hl1 := Lib.hid HN.out.len
      have hl0 := Lib.hid HO3.out.len
      clear hown' hgrow hnil hown hrow hW3
      go_wp2
      go_roundw
      case rel => exact ⟨zs ++ [y], _, R2, rfl, HU2, HN, HC9, HG.out⟩
      case measure =>
        have e1 := hl1.out
        have e0 := hl0.out
        have := HL.out
        rw [List.length_append, List.length_singleton] at e1
        first | omega | (simp only [Array.getD_eq_getD_getElem?]; simp; omega) | (simp; omega)
end Go.Proofs.YtpdpcnblpcalaaaDoor
namespace Go.Proofs.YtpdpcnblpcalaaaDoor
open Go.RowKit
set_option linter.unusedVariables false

theorem OwnI.base {w : World} {base base' : Nat} {v : Value} {zs : List Int} (h : OwnI w base v zs) (hb : base' ≤ base) : OwnI w base' v zs := by
  refine ⟨h.1, ?_⟩
  rcases h.2 with h2 | ⟨g, cap, cur, h1, h3, h4⟩
  · exact .inl h2
  · exact .inr ⟨g, cap, cur, h1, Nat.le_trans hb h3, h4⟩
theorem only_set (B j : Nat) (W : World) (u : Value) : Only B W (W.setCell ⟨B, j, none⟩ u) :=
  ⟨rfl, rfl, rfl, by simp [World.setCell], fun i _ hne => Below.heap_setCell _ _ _ _ (by simpa using hne)⟩
def BulP (R : List UInt8) (s t f : Int) (zs : List Int) : Prop :=
  ∃ a, R = 98 :: a ∧ numOk (nrun a) = true ∧ numV (nrun a) = s ∧ ∃ b1, a.drop (nrun a).length = 32 :: b1 ∧ ∃ b2, b1 = 107 :: b2 ∧ numOk (nrun b2) = true ∧ numV (nrun b2) = t ∧
    ∃ c1, b2.drop (nrun b2).length = 32 :: c1 ∧ ∃ c2, c1 = 100 :: c2 ∧ numOk (nrun c2) = true ∧ numV (nrun c2) = f ∧ Vals (c2.drop (nrun c2).length) zs
def BulW (w : World) (b : Nat) (s : ByteArray) (R : List UInt8) (e : Ending) (w' : World) : Prop :=
  Only b w w' ∧ ((∃ s' t' f' zs v, BulP R s' t' f' zs ∧ OwnI w' w.heap.size v zs ∧ e = .returned (.tuple #[.agg #[.int .i64 s', .int .i64 t', .int .i64 f', v], .bool true])) ∨
    ((∀ s' t' f' zs, ¬ BulP R s' t' f' zs) ∧ ∃ s' t' f', e = .returned (.tuple #[.agg #[.int .i64 s', .int .i64 t', .int .i64 f', .slice none 0 0], .bool false])))
set_option maxRecDepth 100000 in
set_option maxHeartbeats 3200000 in
theorem bul_R (b : Nat) (s : ByteArray) (R : List UInt8) (w : World) (h : CurR w b s R) :
    Calls Tryd.prog 49 #[.pointer (some ⟨b, 0, none⟩)] w (BulW w b s R) := by
  have hBR := h.lt
  go_enter Tryd.func49, Tryd.ntmps49
  go_wp2_with fail
  refine (word_R b s R 98 _ (h.keep ((Keep.refl w).alloc _))).mono ?_
  rintro e w1 ⟨o1, ⟨a, hR, hn, hc1, rfl⟩ | ⟨hR, _, rfl⟩⟩
  case' inr =>
    have hoN := o1
    have c0 := newCellO hoN hBR 0 _ rfl
    have c1 := newCellO hoN hBR 1 _ rfl
    have c2 := newCellO hoN hBR 2 _ rfl
    have c3 := newCellO hoN hBR 3 _ rfl
    have f0 := newFrozenO hoN hBR 0
    have f1 := newFrozenO hoN hBR 1
    have f2 := newFrozenO hoN hBR 2
    have f3 := newFrozenO hoN hBR 3
    have HOnly := Lib.hid (((Only.refl b w).alloc _).trans hoN)
    have HNO : Hid (∀ s' t' f' zs, ¬ BulP R s' t' f' zs) := Lib.hid (fun s' t' f' zs ⟨a', e, n, _⟩ => by rw [hR a' e] at n; cases n)
    go_wp2
    refine bodyPost_ret (v := .tuple #[.agg #[.int .i64 0, .int .i64 0, .int .i64 0, .slice none 0 0], .bool false]) (by simp [results, Tryd.results49, go_sem, *]) rfl ⟨?_, .inr ⟨HNO.out, _, _, _, rfl⟩⟩
    (repeat' (first | with_reducible exact HOnly.out | with_reducible refine Only.setCell ?_ (by omega) _))
  have HR := Lib.hid hR
  have HN := Lib.hid hn
  clear hR hn
  go_wp2_with fail
  refine (take_R b s _ 32 _ hc1).mono ?_
  rintro e w2 ⟨o2, ⟨b1, hR1, hc2, rfl⟩ | ⟨hR1, _, rfl⟩⟩
  case' inr =>
    have hoN := o1.trans o2
    have c0 := newCellO hoN hBR 0 _ rfl
    have c1 := newCellO hoN hBR 1 _ rfl
    have c2 := newCellO hoN hBR 2 _ rfl
    have c3 := newCellO hoN hBR 3 _ rfl
    have f0 := newFrozenO hoN hBR 0
    have f1 := newFrozenO hoN hBR 1
    have f2 := newFrozenO hoN hBR 2
    have f3 := newFrozenO hoN hBR 3
    have HOnly := Lib.hid (((Only.refl b w).alloc _).trans hoN)
    have HNO : Hid (∀ s' t' f' zs, ¬ BulP R s' t' f' zs) := Lib.hid (fun s' t' f' zs ⟨a', e, n, _, b', e2, _⟩ => by rw [HR.out] at e; obtain rfl := (List.cons.inj e).2; exact hR1 _ e2)
    go_wp2
    refine bodyPost_ret (v := .tuple #[.agg #[.int .i64 0, .int .i64 0, .int .i64 0, .slice none 0 0], .bool false]) (by simp [results, Tryd.results49, go_sem, *]) rfl ⟨?_, .inr ⟨HNO.out, _, _, _, rfl⟩⟩
    (repeat' (first | with_reducible exact HOnly.out | with_reducible refine Only.setCell ?_ (by omega) _))
  have HR1 := Lib.hid hR1
  clear hR1 hc1
  go_wp2_with fail
  refine (word_R b s b1 107 _ hc2).mono ?_
  rintro e w3 ⟨o3, ⟨b2, hR2, hn2, hc3, rfl⟩ | ⟨hR2, _, rfl⟩⟩
  case' inr =>
    have hoN := (o1.trans o2).trans o3
    have c0 := newCellO hoN hBR 0 _ rfl
    have c1 := newCellO hoN hBR 1 _ rfl
    have c2 := newCellO hoN hBR 2 _ rfl
    have c3 := newCellO hoN hBR 3 _ rfl
    have f0 := newFrozenO hoN hBR 0
    have f1 := newFrozenO hoN hBR 1
    have f2 := newFrozenO hoN hBR 2
    have f3 := newFrozenO hoN hBR 3
    have HOnly := Lib.hid (((Only.refl b w).alloc _).trans hoN)
    have HNO : Hid (∀ s' t' f' zs, ¬ BulP R s' t' f' zs) := Lib.hid (fun s' t' f' zs ⟨a', e, n, _, b', e2, b'', e3, n3, _⟩ => by rw [HR.out] at e; obtain rfl := (List.cons.inj e).2; rw [HR1.out] at e2; obtain rfl := (List.cons.inj e2).2; rw [hR2 _ e3] at n3; cases n3)
    go_wp2
    refine bodyPost_ret (v := .tuple #[.agg #[.int .i64 0, .int .i64 0, .int .i64 0, .slice none 0 0], .bool false]) (by simp [results, Tryd.results49, go_sem, *]) rfl ⟨?_, .inr ⟨HNO.out, _, _, _, rfl⟩⟩
    (repeat' (first | with_reducible exact HOnly.out | with_reducible refine Only.setCell ?_ (by omega) _))
  have HR2 := Lib.hid hR2
  have HN2 := Lib.hid hn2
  clear hR2 hn2 hc2
  go_wp2_with fail
  refine (take_R b s _ 32 _ hc3).mono ?_
  rintro e w4 ⟨o4, ⟨c1', hR3, hc4, rfl⟩ | ⟨hR3, _, rfl⟩⟩
  case' inr =>
    have hoN := ((o1.trans o2).trans o3).trans o4
    have c0 := newCellO hoN hBR 0 _ rfl
    have c1 := newCellO hoN hBR 1 _ rfl
    have c2 := newCellO hoN hBR 2 _ rfl
    have c3 := newCellO hoN hBR 3 _ rfl
    have f0 := newFrozenO hoN hBR 0
    have f1 := newFrozenO hoN hBR 1
    have f2 := newFrozenO hoN hBR 2
    have f3 := newFrozenO hoN hBR 3
    have HOnly := Lib.hid (((Only.refl b w).alloc _).trans hoN)
    have HNO : Hid (∀ s' t' f' zs, ¬ BulP R s' t' f' zs) := Lib.hid (fun s' t' f' zs ⟨a', e, n, _, b', e2, b'', e3, n3, _, c', e4, _⟩ => by rw [HR.out] at e; obtain rfl := (List.cons.inj e).2; rw [HR1.out] at e2; obtain rfl := (List.cons.inj e2).2; rw [HR2.out] at e3; obtain rfl := (List.cons.inj e3).2; exact hR3 _ e4)
    go_wp2
    refine bodyPost_ret (v := .tuple #[.agg #[.int .i64 0, .int .i64 0, .int .i64 0, .slice none 0 0], .bool false]) (by simp [results, Tryd.results49, go_sem, *]) rfl ⟨?_, .inr ⟨HNO.out, _, _, _, rfl⟩⟩
    (repeat' (first | with_reducible exact HOnly.out | with_reducible refine Only.setCell ?_ (by omega) _))
  have HR3 := Lib.hid hR3
  clear hR3 hc3
  go_wp2_with fail
  refine (word_R b s c1' 100 _ hc4).mono ?_
  rintro e w5 ⟨o5, ⟨c2', hR4, hn4, hc5, rfl⟩ | ⟨hR4, _, rfl⟩⟩
  case' inr =>
    have hoN := (((o1.trans o2).trans o3).trans o4).trans o5
    have c0 := newCellO hoN hBR 0 _ rfl
    have c1 := newCellO hoN hBR 1 _ rfl
    have c2 := newCellO hoN hBR 2 _ rfl
    have c3 := newCellO hoN hBR 3 _ rfl
    have f0 := newFrozenO hoN hBR 0
    have f1 := newFrozenO hoN hBR 1
    have f2 := newFrozenO hoN hBR 2
    have f3 := newFrozenO hoN hBR 3
    have HOnly := Lib.hid (((Only.refl b w).alloc _).trans hoN)
    have HNO : Hid (∀ s' t' f' zs, ¬ BulP R s' t' f' zs) := Lib.hid (fun s' t' f' zs ⟨a', e, n, _, b', e2, b'', e3, n3, _, c', e4, c'', e5, n5, _⟩ => by rw [HR.out] at e; obtain rfl := (List.cons.inj e).2; rw [HR1.out] at e2; obtain rfl := (List.cons.inj e2).2; rw [HR2.out] at e3; obtain rfl := (List.cons.inj e3).2; rw [HR3.out] at e4; obtain rfl := (List.cons.inj e4).2; rw [hR4 _ e5] at n5; cases n5)
    go_wp2
    refine bodyPost_ret (v := .tuple #[.agg #[.int .i64 0, .int .i64 0, .int .i64 0, .slice none 0 0], .bool false]) (by simp [results, Tryd.results49, go_sem, *]) rfl ⟨?_, .inr ⟨HNO.out, _, _, _, rfl⟩⟩
    (repeat' (first | with_reducible exact HOnly.out | with_reducible refine Only.setCell ?_ (by omega) _))
  have HR4 := Lib.hid hR4
  have HN4 := Lib.hid hn4
  clear hR4 hn4 hc4
  have hlt5 : w.heap.size < w5.heap.size := by
    have := ((((o1.trans o2).trans o3).trans o4).trans o5).size
    simp at this; omega
  go_wp2_with fail
  refine (values_R b s _ _ hc5).mono ?_
  rintro e w6 ⟨o6, ⟨zs, v, hvs, hO, _, rfl⟩ | ⟨hno, rfl⟩⟩
  · obtain ⟨av, cv, rfl, _⟩ := hO.ls
    have HO := Lib.hid hO
    have HP : Hid (BulP R (numV (nrun a)) (numV (nrun b2)) (numV (nrun c2')) zs) := Lib.hid ⟨a, HR.out, HN.out, rfl, b1, HR1.out, b2, HR2.out, HN2.out, rfl, c1', HR3.out, c2', HR4.out, HN4.out, rfl, hvs⟩
    clear hvs hO
    have hoN := ((((o1.trans o2).trans o3).trans o4).trans o5).trans o6
    have c0 := newCellO hoN hBR 0 _ rfl
    have c1 := newCellO hoN hBR 1 _ rfl
    have c2 := newCellO hoN hBR 2 _ rfl
    have c3 := newCellO hoN hBR 3 _ rfl
    have f0 := newFrozenO hoN hBR 0
    have f1 := newFrozenO hoN hBR 1
    have f2 := newFrozenO hoN hBR 2
    have f3 := newFrozenO hoN hBR 3
    have HOnly := Lib.hid (((Only.refl b w).alloc _).trans hoN)
    go_wp2
    refine bodyPost_ret (v := .tuple #[.agg #[.int .i64 (numV (nrun a)), .int .i64 (numV (nrun b2)), .int .i64 (numV (nrun c2')), .slice av zs.length cv], .bool true]) (by simp [results, Tryd.results49, go_sem, *]) rfl ⟨?_, .inl ⟨_, _, _, _, _, HP.out, ?_, rfl⟩⟩
    · (repeat' (first | with_reducible exact HOnly.out | with_reducible refine Only.setCell ?_ (by omega) _))
    · refine OwnI.base (OwnI.only (B := w.heap.size) HO.out ?_ hlt5) (by omega)
      (repeat' (first | with_reducible exact Only.refl _ _ | with_reducible refine Only.trans ?_ (only_set _ _ _ _)))
  · have hno' := Lib.hid hno
    clear hno
    have hoN := ((((o1.trans o2).trans o3).trans o4).trans o5).trans o6
    have c0 := newCellO hoN hBR 0 _ rfl
    have c1 := newCellO hoN hBR 1 _ rfl
    have c2 := newCellO hoN hBR 2 _ rfl
    have c3 := newCellO hoN hBR 3 _ rfl
    have f0 := newFrozenO hoN hBR 0
    have f1 := newFrozenO hoN hBR 1
    have f2 := newFrozenO hoN hBR 2
    have f3 := newFrozenO hoN hBR 3
    have HOnly := Lib.hid (((Only.refl b w).alloc _).trans hoN)
    have HNO : Hid (∀ s' t' f' zs, ¬ BulP R s' t' f' zs) := Lib.hid (fun s' t' f' zs ⟨a', e, n, _, b', e2, b'', e3, n3, _, c', e4, c'', e5, n5, _, hv⟩ => by rw [HR.out] at e; obtain rfl := (List.cons.inj e).2; rw [HR1.out] at e2; obtain rfl := (List.cons.inj e2).2; rw [HR2.out] at e3; obtain rfl := (List.cons.inj e3).2; rw [HR3.out] at e4; obtain rfl := (List.cons.inj e4).2; rw [HR4.out] at e5; obtain rfl := (List.cons.inj e5).2; exact hno'.out _ hv)
    go_wp2
    refine bodyPost_ret (v := .tuple #[.agg #[.int .i64 (numV (nrun a)), .int .i64 (numV (nrun b2)), .int .i64 (numV (nrun c2')), .slice none 0 0], .bool false]) (by simp [results, Tryd.results49, go_sem, *]) rfl ⟨?_, .inr ⟨HNO.out, _, _, _, rfl⟩⟩
    (repeat' (first | with_reducible exact HOnly.out | with_reducible refine Only.setCell ?_ (by omega) _))
end Go.Proofs.YtpdpcnblpcalaaaDoor
namespace Go.Proofs.YtpdpcnblpcalaaaDoor
open Go.RowKit Go.Lib
set_option linter.unusedVariables false

/-- The library's table, and the sentinel. -/
def TabsE (w : World) : Prop := Tabs w ∧ ∃ a : Addr, w.cell? ⟨0, 0, none⟩ = some (.iface 119 (.pointer (some a)))
theorem TabsE.keep {w w' : World} (h : TabsE w) (k : Keep w w') : TabsE w' := ⟨h.1.keep k, h.2.imp fun a ha => k.cell ha⟩

def dg10 : ByteArray := ⟨#[48, 49, 50, 51, 52, 53, 54, 55, 56, 57]⟩
def wd (n : Nat) : ByteArray := if 10 ≤ n then dg10.extract (n / 10) (n / 10 + 1) ++ dg10.extract (n % 10) (n % 10 + 1) else dg10.extract (n % 10) (n % 10 + 1)
theorem wd_key : ∀ n : Fin 97, wd n.val = ⟨(decL 4 n.val).toArray⟩ ∧ (32 : UInt8) ∉ decL 4 n.val ∧ (decL 4 n.val).length ≤ 2 := by decide +kernel
theorem itoa_decL {n : Nat} (h : n < 97) : itoa (n : Int) = decL 4 n := by
  rw [itoa_nonneg, ← decL_eq 4 n (by omega)]
theorem wd_eq {n : Nat} (h : n < 97) : wd n = dtx (n : Int) := by
  rw [dtx, itoa_decL h]; exact (wd_key ⟨n, h⟩).1
theorem no32 {n : Nat} (h : n < 97) : (32 : UInt8) ∉ itoa (n : Int) := by
  rw [itoa_decL h]; exact (wd_key ⟨n, h⟩).2.1
/-- A text with a check number behind. -/
def gd (x : ByteArray) (n : Nat) : ByteArray := ⟨(x.data.toList ++ 32 :: 61 :: itoa (n : Int)).toArray⟩
theorem gd_list (x : ByteArray) (n : Nat) : (gd x n).data.toList = x.data.toList ++ 32 :: 61 :: itoa (n : Int) := by simp [gd]
theorem gd_app (x : ByteArray) (n : Nat) : x ++ ⟨#[32, 61]⟩ ++ dtx (n : Int) = gd x n := bytes_eq (by simp [dtx_list])
theorem ba_len (x : ByteArray) : x.data.toList.length = x.size := Array.length_toList
theorem gd_size (x : ByteArray) (n : Nat) : (gd x n).size = x.size + 2 + (itoa (n : Int)).length := by
  rw [← ba_len, gd_list, List.length_append, ba_len]; simp; omega
theorem gd_at (x : ByteArray) (n : Nat) (h : x.size < (gd x n).size) : (gd x n)[x.size] = 32 := by
  have e : (gd x n)[x.size] = (gd x n).data.toList[x.size]'(by rw [ba_len]; exact h) := rfl
  rw [e]
  simp only [gd_list]
  rw [List.getElem_append_right (by rw [ba_len]; omega)]
  simp
theorem gd_no {x : ByteArray} {n : Nat} (hn : n < 97) {j : Nat} (h : j < (gd x n).size) (hj : x.size < j) : (gd x n)[j] ≠ 32 := by
  have e : (gd x n)[j] = (gd x n).data.toList[j]'(by rw [ba_len]; exact h) := rfl
  rw [e]
  simp only [gd_list]
  rw [List.getElem_append_right (by rw [ba_len]; omega)]
  have hjj : ∃ i, j - x.data.toList.length = i + 1 := ⟨j - x.data.toList.length - 1, by rw [ba_len]; omega⟩
  obtain ⟨i, hi⟩ := hjj
  simp only [hi, List.getElem_cons_succ]
  intro e2
  have hm : (32 : UInt8) ∈ (61 : UInt8) :: itoa (n : Int) := by rw [← e2]; exact List.getElem_mem _
  rcases List.mem_cons.1 hm with h9 | h9
  · exact absurd h9 (by decide)
  · exact no32 hn h9
theorem gd_front (x : ByteArray) (n : Nat) : (gd x n).extract 0 x.size = x := by
  refine (bytes_eq (l := x.data.toList) ?_).trans (bytes_eq (u := x) rfl).symm
  rw [ByteArray.data_extract, Array.toList_extract, List.extract_eq_take_drop, gd_list, List.drop_zero, Nat.sub_zero, ← ba_len x, List.take_left]
theorem gd_back (x : ByteArray) (n : Nat) : (gd x n).extract (x.size + 1) (gd x n).size = ⟨(61 :: itoa (n : Int)).toArray⟩ := by
  refine bytes_eq ?_
  rw [ByteArray.data_extract, Array.toList_extract, List.extract_eq_take_drop, ← ba_len (gd x n), List.take_of_length_le (by rw [List.length_drop]; omega), gd_list, ← ba_len x, List.drop_append]
  simp
set_option maxHeartbeats 1000000 in
theorem li_any (p : ByteArray) (m : Nat) (w : World) (hp : p.size ≤ 1048576) (hm : m < p.size) (h32 : p[m] = 32) (hno : ∀ (j : Nat) (h : j < p.size), m < j → p[j] ≠ 32) :
    Calls Tryd.prog 60 #[.string p, .int .u8 32] w fun e w' => e = .returned (.int .i64 (m : Int)) ∧ w = w' := by
  obtain ⟨u, hu⟩ : ∃ u, p.size = u + 1 := ⟨p.size - 1, by omega⟩
  have HNO := Lib.hid hno
  have H32 := Lib.hid h32
  clear hno h32
  have hsub : (p.size : Int) - 1 = (u : Int) := by omega
  go_enter Tryd.func60, Tryd.ntmps60
  go_wp2_with fail
  go_loop [5] (fun i => ∃ k : Nat, m ≤ k ∧ k < p.size ∧ i = .int .i64 k) (fun i => (RowKit.intOf i).toNat)
  case atStart => exact ⟨u, by omega, by omega, by first | rfl | go_num | (congr 1 <;> omega)⟩
  case round =>
    obtain ⟨k, hk1, hk2, rfl⟩ := hrel
    by_cases hkm : k = m
    · subst hkm
      have hb : (p[k].toNat : Int) = 32 := by simp [H32.out]
      have hb2 : ((p[k].toNat : Int) == 32) = true := by rw [hb]; rfl
      have hb3 : p[k].toNat = 32 := by simp [H32.out]
      go_wp2
      go_ret
      exact ⟨rfl, rfl⟩
    · have hne := HNO.out k hk2 (by omega)
      have hb3 : ¬ p[k].toNat = 32 := fun e => hne (UInt8.toNat_inj.1 (by rw [e]; rfl))
      have hb : ¬ (p[k].toNat : Int) = 32 := by omega
      have hb2 : ((p[k].toNat : Int) == 32) = false := beq_eq_false_iff_ne.2 hb
      obtain ⟨i, rfl⟩ : ∃ i, k = i + 1 := ⟨k - 1, by omega⟩
      clear hne
      go_wp2
      go_round
      case rel => exact ⟨i, by omega, by omega, by go_num⟩
      case measure => first | (simp [RowKit.intOf]; done) | (simp [RowKit.intOf]; omega)
set_option maxHeartbeats 1000000 in
theorem lb_any (p : ByteArray) (m : Nat) (w : World) (hp : p.size ≤ 1048576) (hm : m < p.size) (h32 : p[m] = 32) (hno : ∀ (j : Nat) (h : j < p.size), m < j → p[j] ≠ 32) :
    Calls Tryd.prog 52 #[.string p, .int .u8 32] w fun e w' => e = .returned (.int .i64 (m : Int)) ∧ w = w' := by
  have HL := Lib.hid (fun W => li_any p m W hp hm h32 hno)
  clear h32 hno
  go_enter Tryd.func52, Tryd.ntmps52
  go_wp2_with fail
  refine (HL.out _).mono ?_
  rintro e w1 ⟨rfl, rfl⟩
  go_wp2
  go_ret
  exact ⟨rfl, rfl⟩
set_option maxRecDepth 100000 in
set_option maxHeartbeats 1000000 in
theorem is_nil (a : Addr) (w : World) :
    Calls Tryd.prog 28 #[.nilIface, .iface 119 (.pointer (some a))] w fun e w' => e = .returned (.bool false) ∧ w = w' := by
  have hE : ∀ W : World, Sem.run Tryd.prog (binOp .eql 51 .nilIface (.iface 119 (.pointer (some a)))) W = .ok (.bool false) W := fun W => by kernel_rfl
  go_enter Tryd.func28, Tryd.ntmps28
  go_wp2
  go_ret
  exact ⟨rfl, rfl⟩
set_option maxRecDepth 100000 in
set_option maxHeartbeats 2000000 in
theorem cf_good (x : ByteArray) (w : World) (T : Tabs w) (hx : x.size ≤ 1000) :
    Calls Tryd.prog 30 #[.string (gd x (bsL x.data.toList))] w fun e w' => e = .returned (.tuple #[.string x, .nilIface]) ∧ Keep w w' := by
  have hlt := bsL_lt x.data.toList
  have HSW := Lib.hid (fun W (hT : Tabs W) => sw_impl x W hT (by omega))
  generalize bsL x.data.toList = n at *
  have hl := itoa_len (n := (n : Int)) (by omega) (by omega)
  have hs := gd_size x n
  have HF := Lib.hid (gd_front x n)
  have HB := Lib.hid (gd_back x n)
  have HA := Lib.hid (gd_at x n)
  have HN := Lib.hid (fun (j : Nat) (h : j < (gd x n).size) (hj : x.size < j) => gd_no hlt h hj)
  generalize gd x n = p at *
  generalize (⟨(61 :: itoa (n : Int)).toArray⟩ : ByteArray) = sw at *
  have hxp : x.size < p.size := by omega
  have HLI := Lib.hid (fun W => lb_any p x.size W (by omega) hxp (HA.out hxp) HN.out)
  obtain ⟨m, hm⟩ : ∃ m, x.size = m := ⟨_, rfl⟩
  rw [hm] at HLI HF HB hxp
  have m0 : (0 : Int) ≤ (m : Int) := by omega
  have m1 : ¬ (m : Int) < 0 := by omega
  have m1d : decide ((m : Int) < 0) = false := decide_eq_false m1
  have m2 : (m : Int) ≤ (p.size : Int) := by omega
  have m3 : (m : Int) + 1 ≤ (p.size : Int) := by omega
  have m4 : m ≤ p.size := by omega
  have m6 : (0 : Int) ≤ (m : Int) + 1 := by omega
  have m5 : m + 1 ≤ p.size := by omega
  have mw : IntKind.i64.wrap ((m : Int) + 1) = (m : Int) + 1 := IntWalk.i64_in _ (by omega)
  have HT := Lib.hid T
  clear HA HN T hs hlt hl
  go_enter Tryd.func30, Tryd.ntmps30
  go_wp2_with fail
  refine (HLI.out _).mono ?_
  rintro e w1 ⟨rfl, rfl⟩
  have hB := HB.out
  have hF := HF.out
  go_wp2_with fail
  go_region_held3 (fun w' => Keep w w') ((go_split_ands; (repeat' (first | with_reducible assumption | with_reducible exact Keep.refl _ | with_reducible refine Keep.drew ?_ | with_reducible refine Keep.drewN ?_ _ | with_reducible refine Keep.alloc ?_ _ | with_reducible refine Keep.trans ?_ hk))))
    (first | (go_at_call 44; (try rw [HF.out]); refine (HSW.out _ (HT.out.keep (by (repeat' (first | with_reducible assumption | with_reducible exact Keep.refl _ | with_reducible refine Keep.drew ?_ | with_reducible refine Keep.drewN ?_ _ | with_reducible refine Keep.alloc ?_ _ | with_reducible refine Keep.trans ?_ hk))))).mono ?_; rintro e w' ⟨rfl, hk⟩; go_split_ands; have hK : Keep w w' := Keep.trans (by (repeat' (first | with_reducible assumption | with_reducible exact Keep.refl _ | with_reducible refine Keep.drew ?_ | with_reducible refine Keep.drewN ?_ _ | with_reducible refine Keep.alloc ?_ _ | with_reducible refine Keep.trans ?_ hk))) hk))
  all_goals
    go_wp2
    go_ret2
    exact ⟨by first | rfl | rw [hF], hK⟩
set_option maxRecDepth 100000 in
set_option maxHeartbeats 2000000 in
theorem bg_good (x : ByteArray) (w : World) (T : TabsE w) (hx : x.size ≤ 1000) :
    Calls Tryd.prog 10 #[.string (gd x (bsL x.data.toList))] w fun e w' => e = .returned (.bool true) ∧ Keep w w' := by
  have HC := Lib.hid (cf_good x w T.1 hx)
  obtain ⟨a, ha⟩ := T.2
  have HI := Lib.hid (fun W => is_nil a W)
  generalize gd x (bsL x.data.toList) = p at *
  clear T
  go_enter Tryd.func10, Tryd.ntmps10
  go_wp2_with fail
  refine HC.out.mono ?_
  rintro e w1 ⟨rfl, k1⟩
  have ha1 := k1.cell ha
  go_wp2_with fail
  refine (HI.out _).mono ?_
  rintro e w2 ⟨rfl, rfl⟩
  go_wp2
  go_ret
  exact ⟨rfl, k1⟩
end Go.Proofs.YtpdpcnblpcalaaaDoor
namespace Go.Proofs.YtpdpcnblpcalaaaDoor
open Go.RowKit Go.Extern.Stop Go.Stop Go.Extern
set_option linter.unusedVariables false

theorem isTypeOf' (v : Value) (w : World) : (ReflectliteType.typeOf #[.iface 119 v]).run Tryd.prog w = .ok (.iface 92 (.agg #[.pointer (some ⟨5, 119, none⟩)])) w := by kernel_rfl
def cmpFn := ReflectliteType.method fun t => do Rtype.noPackHeld "Comparable" t; pure (.bool (← typeInfo t).comparable)
theorem isComparable' (w : World) : (cmpFn #[.agg #[.pointer (some ⟨5, 119, none⟩)]]).run Tryd.prog w = .ok (.bool true) w := by kernel_rfl
theorem isMethodC (v : Value) (w : World) : (Go.method 255 92 v "Comparable").run Tryd.prog w = .ok (96, v) w := by kernel_rfl
theorem isComp' : (Tryd.prog.info? 119).map (·.comparable) = some true := by kernel_rfl
theorem isSize' : (Tryd.prog.info? 143).map (·.size) = some 1 := by kernel_rfl
set_option maxRecDepth 100000 in
set_option maxHeartbeats 2000000 in
theorem is_in (a : Addr) (w : World) :
    Calls Tryd.prog 51 #[.iface 119 (.pointer (some a)), .iface 119 (.pointer (some a)), .bool true] w fun e w' => e = .returned (.bool true) ∧ w = w' := by
  obtain ⟨i, hi, hcmp⟩ := Option.map_eq_some_iff.1 isComp'
  obtain ⟨j, hj, hjs⟩ := Option.map_eq_some_iff.1 isSize'
  have heq := run_eql_iface_ptr_same (P := Tryd.prog) w a Tryd.underlying51 Tryd.underlying119 hi hcmp hj
  go_enter Tryd.func51, Tryd.ntmps51
  go_wp2_with fail
  refine wp_loop_rounds 1 ?_
  rw [rounds_succ]
  go_wp2
  go_ret
  exact ⟨rfl, rfl⟩
set_option maxRecDepth 100000 in
set_option maxHeartbeats 2000000 in
theorem is_same (a : Addr) (w : World) :
    Calls Tryd.prog 28 #[.iface 119 (.pointer (some a)), .iface 119 (.pointer (some a))] w fun e w' => e = .returned (.bool true) ∧ w = w' := by
  have h8 := @run_callFunc_extern Tryd.prog 50 _ ReflectliteType.typeOf Tryd.func50 (by kernel_rfl) (by kernel_rfl) (by kernel_rfl) (by kernel_rfl)
  have h32 := @run_callFunc_extern Tryd.prog 96 _ cmpFn Tryd.func96 (by kernel_rfl) (by kernel_rfl) (by kernel_rfl) (by kernel_rfl)
  have tT := isTypeOf'
  have cT := isComparable'
  have mR := isMethodC
  have HI := Lib.hid (fun W => is_in a W)
  go_enter Tryd.func28, Tryd.ntmps28
  go_wp2_with fail
  refine (HI.out _).mono ?_
  rintro e w1 ⟨rfl, rfl⟩
  go_wp2
  go_ret
  exact ⟨rfl, rfl⟩
end Go.Proofs.YtpdpcnblpcalaaaDoor
namespace Go.Proofs.YtpdpcnblpcalaaaDoor
open Go.RowKit
set_option linter.unusedVariables false

def gX (p : ByteArray) (m : Nat) : Bool := (p.extract (m + 1) p.size).toList == (⟨(61 :: Lib.itoa (bsL (p.extract 0 m).data.toList : Int)).toArray⟩ : ByteArray).toList
set_option maxRecDepth 100000 in
set_option maxHeartbeats 2000000 in
theorem cf_yes (p : ByteArray) (m : Nat) (a : Addr) (w : World) (T : Tabs w) (ha : w.cell? ⟨0, 0, none⟩ = some (.iface 119 (.pointer (some a)))) (hp : p.size ≤ 1048576) (hm : m < p.size) (h32 : p[m] = 32) (hno : ∀ (j : Nat) (h : j < p.size), m < j → p[j] ≠ 32) (hx : gX p m = true) :
    Calls Tryd.prog 30 #[.string p] w fun e w' => e = .returned (.tuple #[.string (p.extract 0 m), .nilIface]) ∧ Keep w w' := by
  obtain ⟨u, hu⟩ : ∃ u, p.extract (m + 1) p.size = u := ⟨_, rfl⟩
  obtain ⟨x, hxx⟩ : ∃ x, p.extract 0 m = x := ⟨_, rfl⟩
  have hxs : x.size ≤ 1048576 := by rw [← hxx, ByteArray.size_extract]; omega
  unfold gX at hx
  rw [hu, hxx] at hx
  have hlt := bsL_lt x.data.toList
  have HSW := Lib.hid (fun W (hT : Tabs W) => sw_impl x W hT hxs)
  have HLI := Lib.hid (fun W => lb_any p m W hp hm h32 hno)
  generalize (⟨(61 :: Lib.itoa (bsL x.data.toList : Int)).toArray⟩ : ByteArray) = sw at *
  have m0 : (0 : Int) ≤ (m : Int) := by omega
  have m1 : ¬ (m : Int) < 0 := by omega
  have m1d : decide ((m : Int) < 0) = false := decide_eq_false m1
  have m2 : (m : Int) ≤ (p.size : Int) := by omega
  have m3 : (m : Int) + 1 ≤ (p.size : Int) := by omega
  have m4 : m ≤ p.size := by omega
  have m6 : (0 : Int) ≤ (m : Int) + 1 := by omega
  have m5 : m + 1 ≤ p.size := by omega
  have mw : IntKind.i64.wrap ((m : Int) + 1) = (m : Int) + 1 := IntWalk.i64_in _ (by omega)
  have HT := Lib.hid T
  have HGA := Lib.hid ha
  clear T h32 hno hlt ha
  have hq : u.toList = sw.toList := beq_iff_eq.1 hx
  go_enter Tryd.func30, Tryd.ntmps30
  go_wp2_with fail
  refine (HLI.out _).mono ?_
  rintro e w1 ⟨rfl, rfl⟩
  go_wp2_with fail
  go_region_held3 (fun w' => Keep w w') ((go_split_ands; (repeat' (first | with_reducible assumption | with_reducible exact Keep.refl _ | with_reducible refine Keep.drew ?_ | with_reducible refine Keep.drewN ?_ _ | with_reducible refine Keep.alloc ?_ _ | with_reducible refine Keep.trans ?_ hk))))
    (first | (go_at_call 44; refine (HSW.out _ (HT.out.keep (by (repeat' (first | with_reducible assumption | with_reducible exact Keep.refl _ | with_reducible refine Keep.drew ?_ | with_reducible refine Keep.drewN ?_ _ | with_reducible refine Keep.alloc ?_ _ | with_reducible refine Keep.trans ?_ hk))))).mono ?_; rintro e w' ⟨rfl, hk⟩; go_split_ands; have hK : Keep w w' := Keep.trans (by (repeat' (first | with_reducible assumption | with_reducible exact Keep.refl _ | with_reducible refine Keep.drew ?_ | with_reducible refine Keep.drewN ?_ _ | with_reducible refine Keep.alloc ?_ _ | with_reducible refine Keep.trans ?_ hk))) hk))
  all_goals
    go_wp2
    go_ret2
    exact ⟨by first | (rw [hxx]; done) | (rw [hxx]; rfl) | (simp [hxx]; done), hK⟩
set_option maxRecDepth 100000 in
set_option maxHeartbeats 2000000 in
theorem cf_not (p : ByteArray) (m : Nat) (a : Addr) (w : World) (T : Tabs w) (ha : w.cell? ⟨0, 0, none⟩ = some (.iface 119 (.pointer (some a)))) (hp : p.size ≤ 1048576) (hm : m < p.size) (h32 : p[m] = 32) (hno : ∀ (j : Nat) (h : j < p.size), m < j → p[j] ≠ 32) (hx : gX p m = false) :
    Calls Tryd.prog 30 #[.string p] w fun e w' => e = .returned (.tuple #[.string ⟨#[]⟩, (.iface 119 (.pointer (some a)))]) ∧ Keep w w' := by
  obtain ⟨u, hu⟩ : ∃ u, p.extract (m + 1) p.size = u := ⟨_, rfl⟩
  obtain ⟨x, hxx⟩ : ∃ x, p.extract 0 m = x := ⟨_, rfl⟩
  have hxs : x.size ≤ 1048576 := by rw [← hxx, ByteArray.size_extract]; omega
  unfold gX at hx
  rw [hu, hxx] at hx
  have hlt := bsL_lt x.data.toList
  have HSW := Lib.hid (fun W (hT : Tabs W) => sw_impl x W hT hxs)
  have HLI := Lib.hid (fun W => lb_any p m W hp hm h32 hno)
  generalize (⟨(61 :: Lib.itoa (bsL x.data.toList : Int)).toArray⟩ : ByteArray) = sw at *
  have m0 : (0 : Int) ≤ (m : Int) := by omega
  have m1 : ¬ (m : Int) < 0 := by omega
  have m1d : decide ((m : Int) < 0) = false := decide_eq_false m1
  have m2 : (m : Int) ≤ (p.size : Int) := by omega
  have m3 : (m : Int) + 1 ≤ (p.size : Int) := by omega
  have m4 : m ≤ p.size := by omega
  have m6 : (0 : Int) ≤ (m : Int) + 1 := by omega
  have m5 : m + 1 ≤ p.size := by omega
  have mw : IntKind.i64.wrap ((m : Int) + 1) = (m : Int) + 1 := IntWalk.i64_in _ (by omega)
  have HT := Lib.hid T
  have HGA := Lib.hid ha
  clear T h32 hno hlt ha
  have hq : ¬ u.toList = sw.toList := fun e => by rw [e] at hx; simp at hx
  go_enter Tryd.func30, Tryd.ntmps30
  go_wp2_with fail
  refine (HLI.out _).mono ?_
  rintro e w1 ⟨rfl, rfl⟩
  go_wp2_with fail
  go_region_held3 (fun w' => Keep w w') ((go_split_ands; (repeat' (first | with_reducible assumption | with_reducible exact Keep.refl _ | with_reducible refine Keep.drew ?_ | with_reducible refine Keep.drewN ?_ _ | with_reducible refine Keep.alloc ?_ _ | with_reducible refine Keep.trans ?_ hk))))
    (first | (go_at_call 44; refine (HSW.out _ (HT.out.keep (by (repeat' (first | with_reducible assumption | with_reducible exact Keep.refl _ | with_reducible refine Keep.drew ?_ | with_reducible refine Keep.drewN ?_ _ | with_reducible refine Keep.alloc ?_ _ | with_reducible refine Keep.trans ?_ hk))))).mono ?_; rintro e w' ⟨rfl, hk⟩; go_split_ands; have hK : Keep w w' := Keep.trans (by (repeat' (first | with_reducible assumption | with_reducible exact Keep.refl _ | with_reducible refine Keep.drew ?_ | with_reducible refine Keep.drewN ?_ _ | with_reducible refine Keep.alloc ?_ _ | with_reducible refine Keep.trans ?_ hk))) hk))
  all_goals
    go_wp2_with fail
    have hg := hK.cell HGA.out
    go_region_held3 (fun w'' => Keep w w'' ∧ w''.cell? ⟨0, 0, none⟩ = some (.iface 119 (.pointer (some a)))) ((go_split_ands; refine (fun hK => ⟨hK, hK.cell HGA.out⟩ : Keep w _ → _) ?_; (repeat' (first | with_reducible assumption | with_reducible exact Keep.refl _ | with_reducible refine Keep.drew ?_ | with_reducible refine Keep.drewN ?_ _ | with_reducible refine Keep.alloc ?_ _ | with_reducible refine Keep.trans ?_ hk)))) (fail)
    all_goals
      go_wp2
      go_ret2
      exact ⟨rfl, by (repeat' (first | with_reducible assumption | with_reducible exact Keep.refl _ | with_reducible refine Keep.drew ?_ | with_reducible refine Keep.drewN ?_ _ | with_reducible refine Keep.alloc ?_ _ | with_reducible refine Keep.trans ?_ hk))⟩
set_option maxHeartbeats 1000000 in
theorem li_none (p : ByteArray) (w : World) (hp : p.size ≤ 1048576) (hno : ∀ (j : Nat) (h : j < p.size), p[j] ≠ 32) :
    Calls Tryd.prog 60 #[.string p, .int .u8 32] w fun e w' => e = .returned (.int .i64 (-1)) ∧ w = w' := by
  have HNO := Lib.hid hno
  clear hno
  go_enter Tryd.func60, Tryd.ntmps60
  go_wp2_with fail
  go_loop [5] (fun i => ∃ k : Nat, k ≤ p.size ∧ i = .int .i64 ((k : Int) - 1)) (fun i => (RowKit.intOf i + 1).toNat)
  case atStart => exact ⟨p.size, by omega, by first | rfl | go_num⟩
  case round =>
    obtain ⟨k, hk, rfl⟩ := hrel
    by_cases h0 : k = 0
    · subst h0
      go_wp2
      go_ret
      exact ⟨rfl, rfl⟩
    · obtain ⟨i, rfl⟩ : ∃ i, k = i + 1 := ⟨k - 1, by omega⟩
      have hi : i < p.size := by omega
      have hne := HNO.out i hi
      have hb3 : ¬ p[i].toNat = 32 := fun e => hne (UInt8.toNat_inj.1 (by rw [e]; rfl))
      have hb : ¬ (p[i].toNat : Int) = 32 := by omega
      have hb2 : ((p[i].toNat : Int) == 32) = false := beq_eq_false_iff_ne.2 hb
      have e1 : ((i + 1 : Nat) : Int) - 1 = (i : Int) := by omega
      rw [e1]
      clear hne
      go_wp2
      go_round
      case rel => exact ⟨i, by omega, by first | rfl | go_num⟩
      case measure => first | (simp [RowKit.intOf]; done) | (simp [RowKit.intOf]; omega)
set_option maxHeartbeats 1000000 in
theorem lb_none (p : ByteArray) (w : World) (hp : p.size ≤ 1048576) (hno : ∀ (j : Nat) (h : j < p.size), p[j] ≠ 32) :
    Calls Tryd.prog 52 #[.string p, .int .u8 32] w fun e w' => e = .returned (.int .i64 (-1)) ∧ w = w' := by
  have HL := Lib.hid (fun W => li_none p W hp hno)
  clear hno
  go_enter Tryd.func52, Tryd.ntmps52
  go_wp2_with fail
  refine (HL.out _).mono ?_
  rintro e w1 ⟨rfl, rfl⟩
  go_wp2
  go_ret
  exact ⟨rfl, rfl⟩
set_option maxRecDepth 100000 in
set_option maxHeartbeats 2000000 in
theorem cf_none (p : ByteArray) (a : Addr) (w : World) (ha : w.cell? ⟨0, 0, none⟩ = some (.iface 119 (.pointer (some a)))) (hp : p.size ≤ 1048576) (hno : ∀ (j : Nat) (h : j < p.size), p[j] ≠ 32) :
    Calls Tryd.prog 30 #[.string p] w fun e w' => e = .returned (.tuple #[.string ⟨#[]⟩, (.iface 119 (.pointer (some a)))]) ∧ Keep w w' := by
  have HLI := Lib.hid (fun W => lb_none p W hp hno)
  have HGA := Lib.hid ha
  clear hno ha
  go_enter Tryd.func30, Tryd.ntmps30
  go_wp2_with fail
  refine (HLI.out _).mono ?_
  rintro e w1 ⟨rfl, rfl⟩
  go_wp2_with fail
  refine wp_region_held_drew (S := (fun w' => Keep w w')) (by kernel_rfl) ((Keep.refl w).drewN 1) (fun hHeld => ?_)
  refine wpAnyH_take (i := 0) (oi := ({ dst := some 7, op := Op.move (Operand.tmp 4), type := 3, pos := "l14_bulletins.go:115", after := #[], guard := none })) (v := ?v1) rfl (by kernel_rfl) (by kernel_rfl) (by kernel_rfl) (fun _ _ _ h => h) (Or.inl ⟨by rfl, ?hy1⟩) hHeld ?rest1
  case hy1 => (intro w' hSw; (try dsimp only at hSw); go_split_ands; go_simp; try with_reducible rfl)
  try simp only [Act.put, List.setIfInBounds_toArray, List.set_cons_zero, List.set_cons_succ]
  refine wpAnyH_take (i := 1) (oi := ({ dst := some 8, op := Op.binOp BinOp.lss 3 (Operand.tmp 7) (Operand.const (Value.int IntKind.i64 0)) 3, type := 4, pos := "l14_bulletins.go:115", after := #[{ on := 0, ground := Ground.data }], guard := none })) (v := ?v2) rfl (by kernel_rfl) (by kernel_rfl) (by kernel_rfl) (fun _ _ _ h => h) (Or.inl ⟨by rfl, ?hy2⟩) hHeld ?rest2
  case hy2 => (intro w' hSw; (try dsimp only at hSw); go_split_ands; go_simp; try with_reducible rfl)
  try simp only [Act.put, List.setIfInBounds_toArray, List.set_cons_zero, List.set_cons_succ]
  refine wpAnyH_take (i := 2) (oi := ({ dst := some 9, op := Op.move (Operand.tmp 8), type := 4, pos := "l14_bulletins.go:115", after := #[{ on := 1, ground := Ground.data }], guard := none })) (v := ?v3) rfl (by kernel_rfl) (by kernel_rfl) (by kernel_rfl) (fun _ _ _ h => h) (Or.inl ⟨by rfl, ?hy3⟩) hHeld ?rest3
  case hy3 => (intro w' hSw; (try dsimp only at hSw); go_split_ands; go_simp; try with_reducible rfl)
  try simp only [Act.put, List.setIfInBounds_toArray, List.set_cons_zero, List.set_cons_succ]
  refine wpAnyH_take (i := 3) (oi := ({ dst := some 10, op := Op.move (Operand.tmp 0), type := 9, pos := "l14_bulletins.go:115", after := #[{ on := 2, ground := Ground.guard }], guard := some (2, false) })) (v := undef) rfl (by kernel_rfl) (by kernel_rfl) (by kernel_rfl) (fun _ _ _ h => h) (Or.inr ⟨by first | kernel_rfl | rfl, rfl⟩) hHeld ?rest4
  try simp only [Act.put, List.setIfInBounds_toArray, List.set_cons_zero, List.set_cons_succ]
  refine wpAnyH_take (i := 4) (oi := ({ dst := some 11, op := Op.move (Operand.tmp 4), type := 3, pos := "l14_bulletins.go:115", after := #[{ on := 2, ground := Ground.guard }], guard := some (2, false) })) (v := undef) rfl (by kernel_rfl) (by kernel_rfl) (by kernel_rfl) (fun _ _ _ h => h) (Or.inr ⟨by first | kernel_rfl | rfl, rfl⟩) hHeld ?rest5
  try simp only [Act.put, List.setIfInBounds_toArray, List.set_cons_zero, List.set_cons_succ]
  refine wpAnyH_take (i := 5) (oi := ({ dst := some 12, op := Op.binOp BinOp.add 3 (Operand.tmp 11) (Operand.const (Value.int IntKind.i64 1)) 3, type := 3, pos := "l14_bulletins.go:115", after := #[{ on := 4, ground := Ground.data }, { on := 2, ground := Ground.guard }], guard := some (2, false) })) (v := undef) rfl (by kernel_rfl) (by kernel_rfl) (by kernel_rfl) (fun _ _ _ h => h) (Or.inr ⟨by first | kernel_rfl | rfl, rfl⟩) hHeld ?rest6
  try simp only [Act.put, List.setIfInBounds_toArray, List.set_cons_zero, List.set_cons_succ]
  refine wpAnyH_take (i := 6) (oi := ({ dst := some 13, op := Op.slice 9 (Operand.tmp 10) (some (Operand.tmp 12)) none none, type := 9, pos := "l14_bulletins.go:115", after := #[{ on := 3, ground := Ground.data }, { on := 5, ground := Ground.data }, { on := 2, ground := Ground.guard }], guard := some (2, false) })) (v := undef) rfl (by kernel_rfl) (by kernel_rfl) (by kernel_rfl) (fun _ _ _ h => h) (Or.inr ⟨by first | kernel_rfl | rfl, rfl⟩) hHeld ?rest7
  try simp only [Act.put, List.setIfInBounds_toArray, List.set_cons_zero, List.set_cons_succ]
  refine wpAnyH_take (i := 7) (oi := ({ dst := some 14, op := Op.move (Operand.tmp 0), type := 9, pos := "l14_bulletins.go:115", after := #[{ on := 2, ground := Ground.guard }], guard := some (2, false) })) (v := undef) rfl (by kernel_rfl) (by kernel_rfl) (by kernel_rfl) (fun _ _ _ h => h) (Or.inr ⟨by first | kernel_rfl | rfl, rfl⟩) hHeld ?rest8
  try simp only [Act.put, List.setIfInBounds_toArray, List.set_cons_zero, List.set_cons_succ]
  refine wpAnyH_take (i := 8) (oi := ({ dst := some 15, op := Op.move (Operand.tmp 4), type := 3, pos := "l14_bulletins.go:115", after := #[{ on := 2, ground := Ground.guard }], guard := some (2, false) })) (v := undef) rfl (by kernel_rfl) (by kernel_rfl) (by kernel_rfl) (fun _ _ _ h => h) (Or.inr ⟨by first | kernel_rfl | rfl, rfl⟩) hHeld ?rest9
  try simp only [Act.put, List.setIfInBounds_toArray, List.set_cons_zero, List.set_cons_succ]
  refine wpAnyH_take (i := 9) (oi := ({ dst := some 16, op := Op.slice 9 (Operand.tmp 14) none (some (Operand.tmp 15)) none, type := 9, pos := "l14_bulletins.go:115", after := #[{ on := 7, ground := Ground.data }, { on := 8, ground := Ground.data }, { on := 2, ground := Ground.guard }], guard := some (2, false) })) (v := undef) rfl (by kernel_rfl) (by kernel_rfl) (by kernel_rfl) (fun _ _ _ h => h) (Or.inr ⟨by first | kernel_rfl | rfl, rfl⟩) hHeld ?rest10
  try simp only [Act.put, List.setIfInBounds_toArray, List.set_cons_zero, List.set_cons_succ]
  refine wpAnyH_take (i := 10) (oi := ({ dst := some 17, op := Op.call { callee := Callee.value (Operand.func 44), args := #[Operand.tmp 16], argTypes := #[9] }, type := 9, pos := "l14_bulletins.go:115", after := #[{ on := 9, ground := Ground.data }, { on := 2, ground := Ground.chain }, { on := 2, ground := Ground.guard }], guard := some (2, false) })) (v := undef) rfl (by kernel_rfl) (by kernel_rfl) (by kernel_rfl) (fun _ _ _ h => h) (Or.inr ⟨by first | kernel_rfl | rfl, rfl⟩) hHeld ?rest11
  try simp only [Act.put, List.setIfInBounds_toArray, List.set_cons_zero, List.set_cons_succ]
  refine wpAnyH_take (i := 11) (oi := ({ dst := some 18, op := Op.binOp BinOp.neq 9 (Operand.tmp 13) (Operand.tmp 17) 9, type := 4, pos := "l14_bulletins.go:115", after := #[{ on := 6, ground := Ground.data }, { on := 10, ground := Ground.data }, { on := 2, ground := Ground.guard }], guard := some (2, false) })) (v := undef) rfl (by kernel_rfl) (by kernel_rfl) (by kernel_rfl) (fun _ _ _ h => h) (Or.inr ⟨by first | kernel_rfl | rfl, rfl⟩) hHeld ?rest12
  try simp only [Act.put, List.setIfInBounds_toArray, List.set_cons_zero, List.set_cons_succ]
  refine wpAnyH_take (i := 12) (oi := ({ dst := some 19, op := Op.pick (Operand.tmp 9) (Operand.const (Value.bool true)) (Operand.tmp 18), type := 4, pos := "l14_bulletins.go:115", after := #[{ on := 2, ground := Ground.data }, { on := 11, ground := Ground.data }], guard := none })) (v := ?v13) rfl (by kernel_rfl) (by kernel_rfl) (by kernel_rfl) (fun _ _ _ h => h) (Or.inl ⟨by rfl, ?hy13⟩) hHeld ?rest13
  case hy13 => (intro w' hSw; (try dsimp only at hSw); go_split_ands; go_simp; try with_reducible rfl)
  try simp only [Act.put, List.setIfInBounds_toArray, List.set_cons_zero, List.set_cons_succ]
  refine wpAnyH_done (by kernel_rfl) ?_ _
  go_wp2_with fail
  go_region_held3 (fun w'' => Keep w w'' ∧ w''.cell? ⟨0, 0, none⟩ = some (.iface 119 (.pointer (some a)))) ((go_split_ands; refine (fun hK => ⟨hK, hK.cell HGA.out⟩ : Keep w _ → _) ?_; (repeat' (first | with_reducible assumption | with_reducible exact Keep.refl _ | with_reducible refine Keep.drew ?_ | with_reducible refine Keep.drewN ?_ _ | with_reducible refine Keep.alloc ?_ _ | with_reducible refine Keep.trans ?_ hk)))) (fail)
  all_goals
    go_wp2
    go_ret2
    exact ⟨rfl, by (repeat' (first | with_reducible assumption | with_reducible exact Keep.refl _ | with_reducible refine Keep.drew ?_ | with_reducible refine Keep.drewN ?_ _ | with_reducible refine Keep.alloc ?_ _ | with_reducible refine Keep.trans ?_ hk))⟩

theorem bg_of (p : ByteArray) (w : World) (a : Addr) (ha : w.cell? ⟨0, 0, none⟩ = some (.iface 119 (.pointer (some a)))) (b : Bool) (x : ByteArray)
    (h : Calls Tryd.prog 30 #[.string p] w fun e w' => e = .returned (if b then .tuple #[.string x, .nilIface] else .tuple #[.string ⟨#[]⟩, (.iface 119 (.pointer (some a)))]) ∧ Keep w w') :
    Calls Tryd.prog 10 #[.string p] w fun e w' => e = .returned (.bool b) ∧ Keep w w' := by
  have HC := Lib.hid h
  have HI := Lib.hid (fun W => is_nil a W)
  have HJ := Lib.hid (fun W => is_same a W)
  clear h
  cases b
  · rw [if_neg (by decide)] at HC
    go_enter Tryd.func10, Tryd.ntmps10
    go_wp2_with fail
    refine HC.out.mono ?_
    rintro e w1 ⟨rfl, k1⟩
    have ha1 := k1.cell ha
    go_wp2_with fail
    refine (HJ.out _).mono ?_
    rintro e w2 ⟨rfl, rfl⟩
    go_wp2
    go_ret
    exact ⟨rfl, k1⟩
  · rw [if_pos rfl] at HC
    go_enter Tryd.func10, Tryd.ntmps10
    go_wp2_with fail
    refine HC.out.mono ?_
    rintro e w1 ⟨rfl, k1⟩
    have ha1 := k1.cell ha
    go_wp2_with fail
    refine (HI.out _).mono ?_
    rintro e w2 ⟨rfl, rfl⟩
    go_wp2
    go_ret
    exact ⟨rfl, k1⟩
theorem bg_at (p : ByteArray) (m : Nat) (w : World) (T : TabsE w) (hp : p.size ≤ 1048576) (hm : m < p.size) (h32 : p[m] = 32) (hno : ∀ (j : Nat) (h : j < p.size), m < j → p[j] ≠ 32) :
    Calls Tryd.prog 10 #[.string p] w fun e w' => e = .returned (.bool (gX p m)) ∧ Keep w w' := by
  obtain ⟨T1, a, ha⟩ := T
  rcases Bool.eq_false_or_eq_true (gX p m) with hx | hx
  · rw [hx]
    exact bg_of p w a ha true (p.extract 0 m) ((cf_yes p m a w T1 ha hp hm h32 hno hx).mono fun e w' h => ⟨h.1, h.2⟩)
  · rw [hx]
    exact bg_of p w a ha false ⟨#[]⟩ ((cf_not p m a w T1 ha hp hm h32 hno hx).mono fun e w' h => ⟨h.1, h.2⟩)
theorem bg_none (p : ByteArray) (w : World) (T : TabsE w) (hp : p.size ≤ 1048576) (hno : ∀ (j : Nat) (h : j < p.size), p[j] ≠ 32) :
    Calls Tryd.prog 10 #[.string p] w fun e w' => e = .returned (.bool false) ∧ Keep w w' := by
  obtain ⟨T1, a, ha⟩ := T
  exact bg_of p w a ha false ⟨#[]⟩ ((cf_none p a w ha hp hno).mono fun e w' h => ⟨h.1, h.2⟩)
end Go.Proofs.YtpdpcnblpcalaaaDoor
namespace Go.Proofs.YtpdpcnblpcalaaaDoor
open Go.RowKit
set_option linter.unusedVariables false

theorem itoa_head {v : Int} (h1 : -99999 ≤ v) (h2 : v ≤ 99999) (rest : List UInt8) : ∀ t, Lib.itoa v ++ rest ≠ 47 :: t := by
  intro t e
  rcases numOk_cases (itoa_ok h1 h2).1 with ⟨u, hu, h3, _⟩ | ⟨_, h3⟩
  · rw [hu] at e
    exact absurd (List.cons.inj e).1 (by decide)
  · obtain ⟨l1, _, ha, _⟩ := digOk_facts h3
    cases hl : Lib.itoa v with
    | nil => rw [hl] at l1; simp at l1
    | cons c r =>
      rw [hl] at e ha
      simp only [List.all_cons, Bool.and_eq_true] at ha
      obtain rfl : c = 47 := (List.cons.inj e).1
      exact absurd ha.1 (by decide)
theorem vAt_bd {v : Int} (h1 : -99999 ≤ v) (h2 : v ≤ 99999) {rest : List UInt8} (hr : rest = [] ∨ ∃ t, rest = 32 :: t) : vAt (bdW v ++ rest) = some (v, rest) := by
  by_cases hv : v = -9999
  · subst hv; rw [bdW, if_pos rfl]; rfl
  · obtain ⟨n1, n2⟩ := itoa_ok h1 h2
    have hn : nrun (Lib.itoa v ++ rest) = Lib.itoa v := by
      rcases hr with rfl | ⟨t, rfl⟩
      · rw [List.append_nil]; exact nrun_self n1
      · exact nrun_stop n1 t
    rw [bdW, if_neg hv, vAt_no (itoa_head h1 h2 rest), hn, n1, n2, decide_eq_true hv]
    simp
theorem vAt_back {t R' : List UInt8} {v : Int} (h : vAt t = some (v, R')) : t = bdW v ++ R' ∧ -99999 ≤ v ∧ v ≤ 99999 := by
  unfold vAt at h
  split at h
  · injection h with h; injection h with e1 e2; subst e1; subst e2
    exact ⟨by rw [bdW, if_pos rfl]; rfl, by omega, by omega⟩
  · split at h
    · rename_i hc
      injection h with h; injection h with e1 e2; subst e1; subst e2
      simp only [Bool.and_eq_true, decide_eq_true_eq] at hc
      have hb := numV_bound hc.1
      refine ⟨?_, hb.1, hb.2⟩
      rw [bdW, if_neg hc.2, num_back hc.1]
      exact (nrun_prefix t).symm
    · exact absurd h (by simp)
def bWs (zs : List Int) : List UInt8 := zs.flatMap fun v => 32 :: bdW v
theorem bWs_cons (v : Int) (zs : List Int) : bWs (v :: zs) = 32 :: (bdW v ++ bWs zs) := by simp [bWs]
theorem bWs_head (zs : List Int) : bWs zs = [] ∨ ∃ t, bWs zs = 32 :: t := by
  cases zs with
  | nil => exact .inl rfl
  | cons v r => exact .inr ⟨_, bWs_cons v r⟩
theorem Vals.back {R : List UInt8} {zs : List Int} (h : Vals R zs) : R = bWs zs ∧ ∀ v ∈ zs, -99999 ≤ v ∧ v ≤ 99999 := by
  induction h with
  | nil => exact ⟨rfl, fun v hv => absurd hv (by simp)⟩
  | cons h1 h2 ih =>
    obtain ⟨e, hb⟩ := vAt_back h1
    refine ⟨by rw [bWs_cons, ← ih.1, ← e], fun x hx => ?_⟩
    rcases List.mem_cons.1 hx with rfl | hx
    · exact hb
    · exact ih.2 x hx
theorem Vals.of (zs : List Int) (h : ∀ v ∈ zs, -99999 ≤ v ∧ v ≤ 99999) : Vals (bWs zs) zs := by
  induction zs with
  | nil => exact .nil
  | cons v r ih =>
    rw [bWs_cons]
    have hv := h v List.mem_cons_self
    exact .cons (vAt_bd hv.1 hv.2 (bWs_head r)) (ih fun x hx => h x (List.mem_cons_of_mem _ hx))
theorem bdL_eq (s t f : Int) (zs : List Int) : bdL s t f zs = 98 :: (Lib.itoa s ++ 32 :: 107 :: (Lib.itoa t ++ 32 :: 100 :: (Lib.itoa f ++ bWs zs))) := by simp [bdL, bdF, bWs]
def NumB (n : Int) : Prop := -99999 ≤ n ∧ n ≤ 99999
theorem BulP.back {R : List UInt8} {s t f : Int} {zs : List Int} (h : BulP R s t f zs) : R = bdL s t f zs ∧ NumB s ∧ NumB t ∧ NumB f ∧ ∀ v ∈ zs, NumB v := by
  obtain ⟨a, rfl, n1, e1, b1, p1, b2, rfl, n2, e2, c1, p2, c2, rfl, n3, e3, hv⟩ := h
  obtain ⟨hw, hb⟩ := hv.back
  refine ⟨?_, by rw [← e1]; exact numV_bound n1, by rw [← e2]; exact numV_bound n2, by rw [← e3]; exact numV_bound n3, hb⟩
  have q1 := nrun_prefix a
  have q2 := nrun_prefix b2
  have q3 := nrun_prefix c2
  rw [p1] at q1
  rw [p2] at q2
  rw [hw] at q3
  rw [bdL_eq, ← e1, ← e2, ← e3, num_back n1, num_back n2, num_back n3, q3, q2, q1]
theorem nrun_itoa {n : Int} (h : NumB n) {rest : List UInt8} (hr : rest = [] ∨ ∃ t, rest = 32 :: t) : nrun (Lib.itoa n ++ rest) = Lib.itoa n := by
  have n1 := (itoa_ok h.1 h.2).1
  rcases hr with rfl | ⟨t, rfl⟩
  · rw [List.append_nil]; exact nrun_self n1
  · exact nrun_stop n1 t
theorem BulP.of {s t f : Int} {zs : List Int} (hs : NumB s) (ht : NumB t) (hf : NumB f) (hz : ∀ v ∈ zs, NumB v) : BulP (bdL s t f zs) s t f zs := by
  have r1 := nrun_itoa hs (rest := 32 :: 107 :: (Lib.itoa t ++ 32 :: 100 :: (Lib.itoa f ++ bWs zs))) (.inr ⟨_, rfl⟩)
  have r2 := nrun_itoa ht (rest := 32 :: 100 :: (Lib.itoa f ++ bWs zs)) (.inr ⟨_, rfl⟩)
  have r3 := nrun_itoa hf (rest := bWs zs) (bWs_head zs)
  refine ⟨_, bdL_eq s t f zs, by rw [r1]; exact (itoa_ok hs.1 hs.2).1, by rw [r1]; exact (itoa_ok hs.1 hs.2).2, _, by rw [r1]; exact List.drop_left, _, rfl,
    by rw [r2]; exact (itoa_ok ht.1 ht.2).1, by rw [r2]; exact (itoa_ok ht.1 ht.2).2, _, by rw [r2]; exact List.drop_left, _, rfl,
    by rw [r3]; exact (itoa_ok hf.1 hf.2).1, by rw [r3]; exact (itoa_ok hf.1 hf.2).2, by rw [r3, List.drop_left]; exact Vals.of zs hz⟩
theorem Vals.unique {R : List UInt8} {zs : List Int} (h : Vals R zs) : ∀ {us : List Int}, Vals R us → zs = us := by
  induction h with
  | nil => intro us h'; cases h'; rfl
  | cons h1 h2 ih =>
    intro us h'
    cases h' with
    | cons h3 h4 =>
      rw [h1] at h3
      injection h3 with h3; injection h3 with e1 e2
      subst e1; subst e2
      rw [ih h4]
theorem BulP.unique {R : List UInt8} {s t f s' t' f' : Int} {zs us : List Int} (h : BulP R s t f zs) (h' : BulP R s' t' f' us) : s = s' ∧ t = t' ∧ f = f' ∧ zs = us := by
  obtain ⟨a, e0, _, e1, b1, p1, b2, e2, _, e3, c1, p2, c2, e4, _, e5, hv⟩ := h
  obtain ⟨a', g0, _, g1, b1', r1, b2', g2, _, g3, c1', r2, c2', g4, _, g5, hv'⟩ := h'
  obtain rfl := (List.cons.inj (e0.symm.trans g0)).2
  obtain rfl := (List.cons.inj (p1.symm.trans r1)).2
  obtain rfl := (List.cons.inj (e2.symm.trans g2)).2
  obtain rfl := (List.cons.inj (p2.symm.trans r2)).2
  obtain rfl := (List.cons.inj (e4.symm.trans g4)).2
  exact ⟨e1.symm.trans g1, e3.symm.trans g3, e5.symm.trans g5, hv.unique hv'⟩
/-- The text says this series. -/
def Bt (p : ByteArray) (s t f : Int) (zs : List Int) : Prop := btOk s t f zs = true ∧ p.data.toList = btL s t f zs
theorem btOk_numB {s t f : Int} {zs : List Int} (h : btOk s t f zs = true) : NumB s ∧ NumB t ∧ NumB f ∧ ∀ v ∈ zs, NumB v := by
  obtain ⟨hs, ht, hf, _, hz⟩ := btOk_facts h
  refine ⟨⟨by omega, by omega⟩, ⟨by omega, by omega⟩, ⟨by omega, by omega⟩, fun v hv => ?_⟩
  obtain ⟨k, hk, rfl⟩ := List.getElem_of_mem hv
  have := hz k hk
  rw [List.getD_eq_getElem?_getD, List.getElem?_eq_getElem hk, Option.getD_some] at this
  unfold NumB; omega
theorem btL_gd (s t f : Int) (zs : List Int) {p : ByteArray} (h : p.data.toList = btL s t f zs) : p = gd ⟨(bdL s t f zs).toArray⟩ (bsL (bdL s t f zs)) := by
  refine (bytes_eq (u := p) rfl).trans ?_
  rw [gd, h, btL, btS]
theorem bd_front (s t f : Int) (zs : List Int) : (⟨(bdL s t f zs).toArray⟩ : ByteArray).data.toList = bdL s t f zs := by simp
/-- A text of a series: its last blank, its front. -/
theorem Bt.at {p : ByteArray} {s t f : Int} {zs : List Int} (h : Bt p s t f zs) :
    ∃ m, m < p.size ∧ (∀ hm : m < p.size, p[m] = 32) ∧ (∀ (j : Nat) (hj : j < p.size), m < j → p[j] ≠ 32) ∧ gX p m = true ∧ (p.extract 0 m).data.toList = bdL s t f zs := by
  have e := btL_gd s t f zs h.2
  have hlt := bsL_lt (bdL s t f zs)
  have hfr := bd_front s t f zs
  generalize hx : (⟨(bdL s t f zs).toArray⟩ : ByteArray) = x at e hfr
  generalize bdL s t f zs = L at *
  have hs := gd_size x (bsL L)
  have h1 := fun h => gd_at x (bsL L) h
  have h2 := fun (j : Nat) (hj : j < (gd x (bsL L)).size) hm => gd_no (x := x) hlt hj hm
  have h3 := gd_front x (bsL L)
  have h4 := gd_back x (bsL L)
  rw [← e] at hs h1 h2 h3 h4
  refine ⟨x.size, by omega, h1, h2, ?_, by rw [h3, hfr]⟩
  unfold gX
  rw [h4, h3, hfr]
  simp
theorem Bt.of {p : ByteArray} {m : Nat} {s t f : Int} {zs : List Int} (hm : m < p.size) (h32 : p[m] = 32) (hg : gX p m = true) (hP : BulP (p.extract 0 m).data.toList s t f zs) (hok : btOk s t f zs = true) : Bt p s t f zs := by
  refine ⟨hok, ?_⟩
  have hb := (BulP.back hP).1
  have hs : p.data.toList = (p.data.toList.take m) ++ 32 :: p.data.toList.drop (m + 1) := by
    have hl : m < p.data.toList.length := by rw [ba_len]; exact hm
    have e1 : p.data.toList.drop m = p.data.toList[m] :: p.data.toList.drop (m + 1) := (List.drop_eq_getElem_cons hl)
    have e2 : p.data.toList[m] = 32 := h32
    rw [e2] at e1
    rw [← e1, List.take_append_drop]
  have hf : (p.extract 0 m).data.toList = p.data.toList.take m := by
    rw [ByteArray.data_extract, Array.toList_extract, List.extract_eq_take_drop, List.drop_zero, Nat.sub_zero]
  have hbk : (p.extract (m + 1) p.size).data.toList = p.data.toList.drop (m + 1) := by
    rw [ByteArray.data_extract, Array.toList_extract, List.extract_eq_take_drop, ← ba_len p, List.take_of_length_le (by rw [List.length_drop]; omega)]
  unfold gX at hg
  rw [hb] at hf hg
  have hg2 := beq_iff_eq.1 hg
  rw [ByteArray.toList_eq, ByteArray.toList_eq, hbk] at hg2
  rw [hs, ← hf, hg2, btL, btS]
  try simp
theorem Bt.unique {p : ByteArray} {s t f s' t' f' : Int} {zs us : List Int} (h : Bt p s t f zs) (h' : Bt p s' t' f' us) : s = s' ∧ t = t' ∧ f = f' ∧ zs = us := by
  obtain ⟨m, hm, h32, hno, _, hf⟩ := h.at
  obtain ⟨m', hm', h32', hno', _, hf'⟩ := h'.at
  have : m = m' := by
    rcases Nat.lt_trichotomy m m' with h9 | h9 | h9
    · exact absurd (h32' hm') (hno _ hm' h9)
    · exact h9
    · exact absurd (h32 hm) (hno' _ hm h9)
  subst this
  obtain ⟨a, b, c, d⟩ := btOk_numB h.1
  obtain ⟨a', b', c', d'⟩ := btOk_numB h'.1
  have p1 := BulP.of a b c d
  have p2 := BulP.of a' b' c' d'
  rw [← hf] at p1
  rw [← hf'] at p2
  exact p1.unique p2
/-- The last blank of a text. -/
theorem last_blank (p : ByteArray) : (∀ (j : Nat) (h : j < p.size), p[j] ≠ 32) ∨ ∃ m, ∃ hm : m < p.size, p[m] = 32 ∧ ∀ (j : Nat) (h : j < p.size), m < j → p[j] ≠ 32 := by
  suffices h : ∀ k, k ≤ p.size → (∀ (j : Nat) (h : j < p.size), p.size - k ≤ j → p[j] ≠ 32) ∨ ∃ m, ∃ hm : m < p.size, p[m] = 32 ∧ ∀ (j : Nat) (h : j < p.size), m < j → p[j] ≠ 32 by
    rcases h p.size (Nat.le_refl _) with h | h
    · exact .inl fun j hj => h j hj (by omega)
    · exact .inr h
  intro k
  induction k with
  | zero => intro _; exact .inl fun j hj h => by omega
  | succ k ih =>
    intro hk
    rcases ih (by omega) with h | h
    · have hm : p.size - (k + 1) < p.size := by omega
      by_cases h9 : p[p.size - (k + 1)] = 32
      · exact .inr ⟨_, hm, h9, fun j hj hlt => h j hj (by omega)⟩
      · refine .inl fun j hj hle => ?_
        by_cases e : j = p.size - (k + 1)
        · subst e; exact h9
        · exact h j hj (by omega)
    · exact .inr h
/-- What a reader finds in a text with a good check number. -/
theorem no_bt_blank {p : ByteArray} (h : ∀ (j : Nat) (h : j < p.size), p[j] ≠ 32) (s t f : Int) (zs : List Int) : ¬ Bt p s t f zs := fun hb => by
  obtain ⟨m, hm, h32, _⟩ := hb.at
  exact h m hm (h32 hm)
theorem bt_front {p : ByteArray} {m : Nat} (hm : m < p.size) (h32 : p[m] = 32) (hno : ∀ (j : Nat) (h : j < p.size), m < j → p[j] ≠ 32) {s t f : Int} {zs : List Int} (hb : Bt p s t f zs) :
    gX p m = true ∧ BulP (p.extract 0 m).data.toList s t f zs := by
  obtain ⟨m', hm', h32', hno', hg, hf⟩ := hb.at
  have : m = m' := by
    rcases Nat.lt_trichotomy m m' with h9 | h9 | h9
    · exact absurd (h32' hm') (hno _ hm' h9)
    · exact h9
    · exact absurd h32 (hno' _ hm h9)
  subst this
  obtain ⟨a, b, c, d⟩ := btOk_numB hb.1
  exact ⟨hg, by rw [hf]; exact BulP.of a b c d⟩
/-- The reports of a series. -/
def bvR (s t f : Int) (zs : List Int) : Nat → List R4
  | 0 => []
  | k + 1 => bvR s t f zs k ++ (if zs.getD k 0 = -9999 then [] else [(s, f + (k : Int), t, zs.getD k 0)])
theorem bvR_len (s t f : Int) (zs : List Int) : ∀ k, (bvR s t f zs k).length ≤ k
  | 0 => Nat.le_refl _
  | k + 1 => by
    have := bvR_len s t f zs k
    rw [bvR, List.length_append]
    split <;> simp <;> omega
end Go.Proofs.YtpdpcnblpcalaaaDoor
namespace Go.Proofs.YtpdpcnblpcalaaaDoor
open Go.RowKit
set_option linter.unusedVariables false

theorem list_len (s : ByteArray) : s.data.toList.length = s.size := by simp
theorem list_head {s : ByteArray} (h : 0 < s.size) : s.data.toList.headD 0 = s[0] := by
  have h1 := List.drop_eq_getElem_cons (l := s.data.toList) (i := 0) (by simpa using h)
  rw [List.drop_zero] at h1
  rw [h1]; rfl
theorem digs_short {s : ByteArray} (h : ¬ (1 ≤ s.size ∧ s.size ≤ 5)) : digs s.data.toList = -1 := by
  have : digOk s.data.toList = false := by
    rw [digOk, list_len]
    by_cases h1 : 1 ≤ s.size
    · have : decide (s.size ≤ 5) = false := decide_eq_false (fun h2 => h ⟨h1, h2⟩)
      simp [this]
    · have : decide (1 ≤ s.size) = false := decide_eq_false h1
      simp [this]
  simp [digs, this]
theorem digs_zero {s : ByteArray} (h0 : 0 < s.size) (h : 1 < s.size) (hz : (s[0].toNat : Int) = 48) : digs s.data.toList = -1 := by
  have h48 : s[0].toNat = 48 := by omega
  have h49 : s[0] = 48 := UInt8.toNat_inj.1 h48
  have e : (s[0] == 48) = true := by rw [h49]; rfl
  have : digOk s.data.toList = false := by
    rw [digOk, list_len, list_head h0, e]
    simp [h]
  simp [digs, this]
theorem digs_bad {s : ByteArray} {k : Nat} (h : k < s.size) (hd : isDig s[k] = false) : digs s.data.toList = -1 := by
  have hm : s[k] ∈ s.data.toList := by
    have : s.data.toList[k]'(by simpa using h) = s[k] := rfl
    rw [← this]; exact List.getElem_mem _
  have ha : s.data.toList.all isDig = false := by
    rw [List.all_eq_false]
    exact ⟨_, hm, by simp [hd]⟩
  have : digOk s.data.toList = false := by rw [digOk, ha]; simp
  simp [digs, this]
theorem digs_good {s : ByteArray} (h0 : 1 ≤ s.size) (h5 : s.size ≤ 5) (hz : s.size = 1 ∨ ∃ h : 0 < s.size, (s[0].toNat : Int) ≠ 48) (ha : s.data.toList.all isDig = true) : digs s.data.toList = dval s.data.toList 0 := by
  have : digOk s.data.toList = true := by
    rw [digOk, list_len, ha]
    rcases hz with h | ⟨h, hz⟩
    · simp [h]
    · have e : (s[0] == 48) = false := by
        simp only [beq_eq_false_iff_ne, ne_eq]
        intro he
        rw [he] at hz
        exact hz rfl
      rw [list_head h, e]
      simp; omega
  simp [digs, this]
theorem take_next {s : ByteArray} {k : Nat} (h : k < s.size) : s.data.toList.take (k + 1) = s.data.toList.take k ++ [s[k]] := by
  rw [List.take_succ_eq_append_getElem (by simpa using h)]; rfl
theorem take_full {s : ByteArray} : s.data.toList.take s.size = s.data.toList := List.take_of_length_le (by simp)
theorem dig_of' {c : UInt8} (h1 : 48 ≤ (c.toNat : Int)) (h2 : (c.toNat : Int) ≤ 57) : isDig c = true := by simp [isDig]; omega
theorem dig_lo' {c : UInt8} (h1 : (c.toNat : Int) < 48) : isDig c = false := by simp [isDig]; omega
theorem dig_hi' {c : UInt8} (h1 : 57 < (c.toNat : Int)) : isDig c = false := by simp [isDig]; omega
theorem run_next' {s : ByteArray} {k : Nat} {v : Int} (h : k < s.size) (ha : (s.data.toList.take k).all isDig = true) (hv : v = dval (s.data.toList.take k) 0) (hc : isDig s[k] = true) :
    (s.data.toList.take (k + 1)).all isDig = true ∧ 10 * v + ((s[k].toNat : Int) - 48) = dval (s.data.toList.take (k + 1)) 0 := by
  rw [take_next h, List.all_append, ha, dval_append, ← hv]
  simp [hc, dval]
theorem dval_small (u : List UInt8) (h : u.all isDig = true) (h5 : u.length ≤ 5) : 0 ≤ dval u 0 ∧ dval u 0 ≤ 99999 := by
  refine ⟨dval_nonneg _ _ h (by omega), ?_⟩
  have h1 := dval_bound _ 0 h
  rcases (show u.length = 0 ∨ u.length = 1 ∨ u.length = 2 ∨ u.length = 3 ∨ u.length = 4 ∨ u.length = 5 by omega) with h | h | h | h | h | h <;> rw [h] at h1 <;> simp at h1 <;> omega

set_option maxHeartbeats 1000000 in
theorem sdigits_bad (s : ByteArray) (w : World) (hs : s.size ≤ 1048576) (h : ¬ (1 ≤ s.size ∧ s.size ≤ 5) ∨ (∃ h : 0 < s.size, 1 < s.size ∧ (s[0].toNat : Int) = 48)) :
    Calls Tryd.prog 61 #[.string s] w fun e w' => e = .returned (.int .i64 (-1)) ∧ w = w' := by
  by_cases hin : 1 ≤ s.size ∧ s.size ≤ 5
  · rcases h with h | ⟨h0, h1, hz⟩
    · exact absurd hin h
    · have hi : inB (s.size : Int) 1 5 = true := by simp [inB]; omega
      have h1d : decide (1 < (s.size : Int)) = true := by simp; omega
      have hzd : ((s[0].toNat : Int) == 48) = true := by simpa using hz
      have h0i : (0 : Int) < s.size := by omega
      clear hz hin
      go_enter Tryd.func61, Tryd.ntmps61
      go_wp2_with (go_at_call 47; refine (l6In_any _ _ _ _).mono ?_; rintro e w' ⟨rfl, rfl⟩)
      go_ret
      exact ⟨rfl, rfl⟩
  · have hi : inB (s.size : Int) 1 5 = false := by
      simp only [inB, Bool.and_eq_false_iff, decide_eq_false_iff_not]
      omega
    clear h hin
    go_enter Tryd.func61, Tryd.ntmps61
    go_wp2_with (go_at_call 47; refine (l6In_any _ _ _ _).mono ?_; rintro e w' ⟨rfl, rfl⟩)
    go_ret
    exact ⟨rfl, rfl⟩

set_option maxHeartbeats 2000000 in
theorem sdigits_in (s : ByteArray) (w : World) (h1 : 1 ≤ s.size) (h5 : s.size ≤ 5) (hz : s.size = 1 ∨ (1 < s.size ∧ ∃ h : 0 < s.size, (s[0].toNat : Int) ≠ 48)) :
    Calls Tryd.prog 61 #[.string s] w fun e w' => e = .returned (.int .i64 (digs s.data.toList)) ∧ w = w' := by
  have HZ := Lib.hid hz
  have hi : inB (s.size : Int) 1 5 = true := by simp [inB]; omega
  have h0i : (0 : Int) < s.size := by omega
  have h0 : 0 < s.size := by omega
  rcases hz with hz | ⟨hz, h, hne⟩
  case' inl =>
    have h1d : decide (1 < (s.size : Int)) = false := by simp; omega
    clear hz
    go_enter Tryd.func61, Tryd.ntmps61
    go_wp2_with (go_at_call 47; refine (l6In_any _ _ _ _).mono ?_; rintro e w' ⟨rfl, rfl⟩)
  case' inr =>
    have h1d : decide (1 < (s.size : Int)) = true := by simp; omega
    have hzd : ((s[0].toNat : Int) == 48) = false := by simpa using hne
    clear hz hne
    go_enter Tryd.func61, Tryd.ntmps61
    go_wp2_with (go_at_call 47; refine (l6In_any _ _ _ _).mono ?_; rintro e w' ⟨rfl, rfl⟩)
  all_goals
    go_loop [3, 4] (fun n i => ∃ (k : Nat) (v : Int), k ≤ s.size ∧ i = .int .i64 k ∧ n = .int .i64 v ∧ Hid ((s.data.toList.take k).all isDig = true) ∧ Hid (v = dval (s.data.toList.take k) 0)) (fun _ i => s.size - (intOf i).toNat)
    case atStart => exact ⟨0, 0, Nat.zero_le _, rfl, rfl, Lib.hid (by simp), Lib.hid (by simp [dval])⟩
    case round =>
      obtain ⟨k, v, hk, rfl, rfl, HA, HV⟩ := hrel
      obtain ⟨v0, v1⟩ : 0 ≤ v ∧ v ≤ 99999 := by rw [HV.out]; exact dval_small _ HA.out (by simp; omega)
      by_cases hlt : k < s.size
      · have hlti : (k : Int) < s.size := by omega
        by_cases hlo : (s[k].toNat : Int) < 48
        · have HD := Lib.hid (digs_bad hlt (dig_lo' hlo))
          go_wp2
          go_ret
          exact ⟨by rw [HD.out]; rfl, rfl⟩
        · by_cases hhi : 57 < (s[k].toNat : Int)
          · have HD := Lib.hid (digs_bad hlt (dig_hi' hhi))
            go_wp2
            go_ret
            exact ⟨by rw [HD.out]; rfl, rfl⟩
          · obtain ⟨na, nv⟩ := run_next' hlt HA.out HV.out (dig_of' (by omega) (by omega))
            have NA := Lib.hid na
            have NV := Lib.hid nv
            have hl2 : 48 ≤ (s[k].toNat : Int) := by omega
            have hh2 : (s[k].toNat : Int) ≤ 57 := by omega
            clear na nv
            go_wp2
            go_round
            case rel => exact ⟨k + 1, _, by omega, by go_num, rfl, NA, NV⟩
            case measure => simp [intOf]; omega
      · have hke : k = s.size := by omega
        have HD : Hid (v = digs s.data.toList) := Lib.hid (by
          have ha := HA.out
          have hv := HV.out
          rw [hke, take_full] at ha hv
          rw [hv]
          refine (digs_good h1 h5 ?_ ha).symm
          rcases HZ.out with h | ⟨_, h⟩
          · exact .inl h
          · exact .inr h)
        clear hke
        go_wp2
        go_ret
        exact ⟨by rw [← HD.out]; rfl, rfl⟩

theorem sdigits_any (s : ByteArray) (w : World) (hs : s.size ≤ 1048576) :
    Calls Tryd.prog 61 #[.string s] w fun e w' => e = .returned (.int .i64 (digs s.data.toList)) ∧ w = w' := by
  by_cases hin : 1 ≤ s.size ∧ s.size ≤ 5
  · have h0 : 0 < s.size := by omega
    by_cases h1 : s.size = 1
    · exact sdigits_in s w hin.1 hin.2 (.inl h1)
    · by_cases hz : (s[0].toNat : Int) = 48
      · rw [digs_zero h0 (by omega) hz]
        exact sdigits_bad s w hs (.inr ⟨h0, by omega, hz⟩)
      · exact sdigits_in s w hin.1 hin.2 (.inr ⟨by omega, h0, hz⟩)
  · rw [digs_short hin]
    exact sdigits_bad s w hs (.inl hin)
end Go.Proofs.YtpdpcnblpcalaaaDoor
namespace Go.Proofs.YtpdpcnblpcalaaaDoor
open Go.RowKit
set_option linter.unusedVariables false

theorem digs_bounds (u : List UInt8) : -1 ≤ digs u ∧ digs u ≤ 99999 := by
  unfold digs
  by_cases h : digOk u = true
  · have := digOk_facts h; rw [if_pos h]; omega
  · rw [if_neg h]; omega
theorem digs_ok {u : List UInt8} (h : digOk u = true) : digs u = dval u 0 ∧ 0 ≤ digs u := by
  have := digOk_facts h; simp [digs, h]; omega
theorem digs_no {u : List UInt8} (h : digOk u = false) : digs u = -1 := by simp [digs, h]

theorem ext_tail (s : ByteArray) : (s.extract 1 s.size).data.toList = s.data.toList.tail := by
  rw [ByteArray.data_extract]
  simp
  exact List.take_of_length_le (by simp)
theorem ext_size (s : ByteArray) : (s.extract 1 s.size).size = s.size - 1 := by simp

/-- What the model answers for a number, good or not. -/
def numRaw (l : List UInt8) : Int := if l.headD 0 == 45 then -digs l.tail else digs l
theorem numRaw_ok {l : List UInt8} (h : numOk l = true) : numRaw l = numV l := by
  rcases numOk_cases h with ⟨t, rfl, h1, _⟩ | ⟨hc, h1⟩
  · have := (digs_ok h1).1
    simp [numRaw, numV, this]
  · have := (digs_ok h1).1
    rw [numRaw, numV, hc]; simpa using this
def SNum (l : List UInt8) (w : World) (e : Ending) (w' : World) : Prop := w = w' ∧ e = .returned (.tuple #[.int .i64 (numRaw l), .bool (numOk l)])

set_option maxHeartbeats 1000000 in
theorem snumber_any (s : ByteArray) (w : World) (hs : s.size ≤ 1048576) :
    Calls Tryd.prog 53 #[.string s] w (SNum s.data.toList w) := by
  have hb := digs_bounds s.data.toList
  by_cases h0 : s.size = 0
  · have hl : s.data.toList = [] := List.eq_nil_of_length_eq_zero (by rw [list_len]; exact h0)
    have HL : Hid (numOk s.data.toList = false) := Lib.hid (by rw [hl]; rfl)
    have HD : Hid (digs s.data.toList = -1) := Lib.hid (by rw [hl]; rfl)
    have HR : Hid (numRaw s.data.toList = -1) := Lib.hid (by rw [hl]; rfl)
    have h0d : decide (0 < s.size) = false := decide_eq_false (by omega)
    clear hl h0
    go_enter Tryd.func53, Tryd.ntmps53
    go_wp2_with fail
    (with_reducible refine (sdigits_any s _ hs).mono ?_)
    rintro e w' ⟨rfl, rfl⟩
    rw [HD.out]
    go_wp2
    go_ret2
    exact ⟨rfl, by rw [HL.out, HR.out]; rfl⟩
  · have hp : 0 < s.size := by omega
    have h0d : decide (0 < s.size) = true := decide_eq_true hp
    have h0i : (0 : Int) < s.size := by omega
    have h1i : (1 : Int) ≤ s.size := by omega
    have hh := list_head hp
    by_cases h45 : (s[0].toNat : Int) = 45
    · have hc : ((s[0].toNat : Int) == 45) = true := by simpa using h45
      have e45 : s[0] = 45 := UInt8.toNat_inj.1 (show s[0].toNat = 45 by omega)
      have hd : (s.data.toList.headD 0 == 45) = true := by rw [hh, e45]; rfl
      have HK : Hid (numOk s.data.toList = (digOk s.data.toList.tail && decide (0 < dval s.data.toList.tail 0)) ∧ numV s.data.toList = 0 - dval s.data.toList.tail 0) :=
        Lib.hid ⟨by unfold numOk; rw [if_pos hd], by unfold numV; rw [if_pos hd]⟩
      have HR : Hid (numRaw s.data.toList = -digs s.data.toList.tail) := Lib.hid (by unfold numRaw; rw [if_pos hd])
      obtain ⟨b1, b2⟩ := digs_bounds s.data.toList.tail
      clear h45 e45 hd hh hb
      go_enter Tryd.func53, Tryd.ntmps53
      go_wp2_with fail
      refine (sdigits_any (s.extract 1 s.size) _ (Nat.le_trans (by rw [ext_size]; exact Nat.sub_le _ _) hs)).mono ?_
      rintro e w' ⟨he, rfl⟩
      rw [ext_tail] at he
      subst he
      obtain ⟨v, hv⟩ : ∃ v : Int, Hid (digs s.data.toList.tail = v) := ⟨_, Lib.hid rfl⟩
      rw [hv.out] at b1 b2 ⊢
      go_wp2
      go_ret2
      have hb : numOk s.data.toList = decide (0 < v) := by
        rw [HK.out.1]
        rcases Bool.eq_false_or_eq_true (digOk s.data.toList.tail) with hk | hk
        · have h3 := (digs_ok hk).1
          rw [hv.out] at h3
          rw [hk, ← h3]
          simp
        · have h3 := digs_no hk
          rw [hv.out] at h3
          rw [hk, h3]
          simp
      exact ⟨rfl, by rw [hb, HR.out, hv.out]; rfl⟩
    · have hc : ((s[0].toNat : Int) == 45) = false := by simpa using h45
      have hd : (s.data.toList.headD 0 == 45) = false := by
        rw [hh]
        simp only [beq_eq_false_iff_ne, ne_eq]
        intro he
        rw [he] at h45
        exact h45 rfl
      have HK : Hid (numOk s.data.toList = digOk s.data.toList ∧ numV s.data.toList = dval s.data.toList 0) :=
        Lib.hid ⟨by unfold numOk; rw [if_neg (by rw [hd]; decide)], by unfold numV; rw [if_neg (by rw [hd]; decide)]⟩
      have HR : Hid (numRaw s.data.toList = digs s.data.toList) := Lib.hid (by unfold numRaw; rw [if_neg (by rw [hd]; decide)])
      obtain ⟨b1, b2⟩ := hb
      clear h45 hd hh
      go_enter Tryd.func53, Tryd.ntmps53
      go_wp2_with fail
      refine (sdigits_any s _ hs).mono ?_
      rintro e w' ⟨rfl, rfl⟩
      obtain ⟨v, hv⟩ : ∃ v : Int, Hid (digs s.data.toList = v) := ⟨_, Lib.hid rfl⟩
      rw [hv.out] at b1 b2 ⊢
      go_wp2
      go_ret2
      have hb : numOk s.data.toList = decide (0 ≤ v) := by
        rw [HK.out.1]
        rcases Bool.eq_false_or_eq_true (digOk s.data.toList) with hk | hk
        · have h3 := (digs_ok hk).2
          rw [hv.out] at h3
          rw [hk, decide_eq_true h3]
        · have h3 := digs_no hk
          rw [hv.out] at h3
          rw [hk, h3]
          rfl
      exact ⟨rfl, by rw [hb, HR.out, hv.out]; rfl⟩

/-- The number behind a word's first letter. -/
def wordOk (l : List UInt8) (x : UInt8) : Bool := match l with | c :: t => c == x && numOk t | [] => false
def wordRaw (l : List UInt8) (x : UInt8) : Int := match l with | c :: t => if c = x then numRaw t else 0 | [] => 0
def SWord (l : List UInt8) (x : UInt8) (w : World) (e : Ending) (w' : World) : Prop := w = w' ∧ e = .returned (.tuple #[.int .i64 (wordRaw l x), .bool (wordOk l x)])
theorem wordOk_cases {l : List UInt8} {x : UInt8} (h : wordOk l x = true) : ∃ t, l = x :: t ∧ numOk t = true ∧ wordRaw l x = numV t := by
  cases l with
  | nil => cases h
  | cons c t =>
    simp [wordOk] at h
    obtain ⟨rfl, h2⟩ := h
    exact ⟨t, rfl, h2, by simp [wordRaw, numRaw_ok h2]⟩
theorem wordOk_of {t : List UInt8} {x : UInt8} (h : numOk t = true) : wordOk (x :: t) x = true := by simp [wordOk, h]
theorem wordOk_no {l : List UInt8} {c x : UInt8} {t : List UInt8} (h : l = c :: t) (hne : c ≠ x) : wordOk l x = false := by simp [h, wordOk, hne]

set_option maxHeartbeats 1000000 in
theorem sword_any (s : ByteArray) (x : UInt8) (w : World) (hs : s.size ≤ 1048576) :
    Calls Tryd.prog 35 #[.string s, .int .u8 (x.toNat : Int)] w (SWord s.data.toList x w) := by
  by_cases h0 : s.size = 0
  · have hl : s.data.toList = [] := List.eq_nil_of_length_eq_zero (by rw [list_len]; exact h0)
    have HL : Hid (wordOk s.data.toList x = false) := Lib.hid (by rw [hl]; rfl)
    have HR : Hid (wordRaw s.data.toList x = 0) := Lib.hid (by rw [hl]; rfl)
    have he1 : s.toList.isEmpty = true := by rw [ByteArray.toList_eq, hl]; rfl
    have he2 : s.toList = [] := by rw [ByteArray.toList_eq, hl]
    have he3 : s.data.toList.isEmpty = true := by rw [hl]; rfl
    clear h0
    go_enter Tryd.func35, Tryd.ntmps35
    go_wp2
    go_ret2
    exact ⟨rfl, by rw [HL.out, HR.out]; rfl⟩
  · have hp : 0 < s.size := by omega
    have h0i : (0 : Int) < s.size := by omega
    have h1i : (1 : Int) ≤ s.size := by omega
    have hne : s.data.toList ≠ [] := by intro h; have := list_len s; rw [h] at this; simp at this; omega
    have hcons : s.data.toList = s[0] :: s.data.toList.tail := by
      have h1 := List.drop_eq_getElem_cons (l := s.data.toList) (i := 0) (by simpa using hp)
      rw [List.drop_zero] at h1
      have h2 : s.data.toList.tail = s.data.toList.drop 1 := by simp
      rw [h2]; exact h1
    have HC := Lib.hid hcons
    have he1 : s.toList.isEmpty = false := by rw [ByteArray.toList_eq]; simpa using hne
    have he3 : s.data.toList.isEmpty = false := by simpa using hne
    clear hcons hne h0
    by_cases hx : s[0] = x
    · have hxd : ((s[0].toNat : Int) != (x.toNat : Int)) = false := by rw [hx]; simp
      have HX := Lib.hid hx
      clear hx
      go_enter Tryd.func35, Tryd.ntmps35
      go_wp2_with fail
      refine (snumber_any (s.extract 1 s.size) _ (Nat.le_trans (by rw [ext_size]; exact Nat.sub_le _ _) hs)).mono ?_
      rintro e w' ⟨rfl, he⟩
      rw [ext_tail] at he
      subst he
      go_wp2
      go_ret2
      exact ⟨rfl, by rw [HC.out]; simp [wordOk, wordRaw, HX.out]⟩
    · have hxd : ((s[0].toNat : Int) != (x.toNat : Int)) = true := by
        simp only [bne_iff_ne, ne_eq]
        intro h
        exact hx (UInt8.toNat_inj.1 (by omega))
      have HX := Lib.hid hx
      clear hx
      have HW : Hid (wordOk s.data.toList x = false) := Lib.hid (by rw [HC.out]; simp [wordOk, HX.out])
      have HR : Hid (wordRaw s.data.toList x = 0) := Lib.hid (by rw [HC.out]; simp [wordRaw, HX.out])
      go_enter Tryd.func35, Tryd.ntmps35
      go_wp2
      go_ret2
      exact ⟨rfl, by rw [HW.out, HR.out]; rfl⟩
end Go.Proofs.YtpdpcnblpcalaaaDoor
namespace Go.Proofs.YtpdpcnblpcalaaaDoor
open Go.RowKit
set_option linter.unusedVariables false

def btWs (s t f : Int) (zs : List Int) : List (List UInt8) := (98 :: Lib.itoa s) :: (107 :: Lib.itoa t) :: (100 :: Lib.itoa f) :: zs.map bdW
theorem flat_ws (s t f : Int) (zs : List Int) : flat 32 (btWs s t f zs) = bdL s t f zs ++ [32] := by
  have h : ∀ zs : List Int, 32 :: flat 32 (zs.map bdW) = bWs zs ++ [32] := by
    intro zs
    induction zs with
    | nil => rfl
    | cons v r ih =>
      rw [bWs_cons, List.map_cons, flat, ih]; simp
  rw [btWs, flat, flat, flat, h, bdL_eq]; simp
theorem no32_itoa {v : Int} (h : NumB v) : (32 : UInt8) ∉ Lib.itoa v := numOk_no (itoa_ok h.1 h.2).1
theorem no32_cons {c : UInt8} {l : List UInt8} (hc : c ≠ 32) (h : (32 : UInt8) ∉ l) : (32 : UInt8) ∉ c :: l := fun hm => by
  rcases List.mem_cons.1 hm with e | e
  · exact hc e.symm
  · exact h e
theorem no32_bdW {v : Int} (h : NumB v) : (32 : UInt8) ∉ bdW v := by
  unfold bdW; split
  · decide
  · exact no32_itoa h
theorem bt_words {p : ByteArray} {s t f : Int} {zs : List Int} (h : Bt p s t f zs) {ws : List (List UInt8)} (hw : Words 32 p.data.toList ws) :
    ws = btWs s t f zs ++ [61 :: Lib.itoa (bsL (bdL s t f zs) : Int)] := by
  obtain ⟨a, b, c, d⟩ := btOk_numB h.1
  have hlt := bsL_lt (bdL s t f zs)
  refine hw.unique ⟨btWs s t f zs, _, rfl, ?_, ?_⟩
  · rw [h.2, flat_ws, btL, btS]; simp
  · intro q hq
    rw [List.mem_append] at hq
    rcases hq with hq | hq
    · rcases List.mem_cons.1 hq with rfl | hq
      · exact no32_cons (by decide) (no32_itoa a)
      rcases List.mem_cons.1 hq with rfl | hq
      · exact no32_cons (by decide) (no32_itoa b)
      rcases List.mem_cons.1 hq with rfl | hq
      · exact no32_cons (by decide) (no32_itoa c)
      obtain ⟨v, hv, rfl⟩ := List.mem_map.1 hq
      exact no32_bdW (d v hv)
    · obtain rfl := List.mem_singleton.1 hq
      exact no32_cons (by decide) (no32_itoa ⟨by omega, by omega⟩)
/-- A word of a value, as the model reads it. -/
def wOk (u : List UInt8) : Bool := u == [47] || numOk u
def wV (u : List UInt8) : Int := if u = [47] then -9999 else numRaw u
theorem numRaw_bound (u : List UInt8) : -99999 ≤ numRaw u ∧ numRaw u ≤ 99999 := by
  have h1 := digs_bounds u
  have h2 := digs_bounds u.tail
  unfold numRaw; split <;> omega
theorem wV_bound (u : List UInt8) : NumB (wV u) := by
  have := numRaw_bound u
  unfold wV NumB; split <;> omega
theorem wOk_bdW {v : Int} (h : NumB v) : wOk (bdW v) = true ∧ wV (bdW v) = v := by
  by_cases hv : v = -9999
  · subst hv; exact ⟨rfl, rfl⟩
  · have h1 := itoa_ok h.1 h.2
    have hne : Lib.itoa v ≠ [47] := fun e => itoa_head h.1 h.2 [] [] (by rw [List.append_nil]; exact e)
    rw [bdW, if_neg hv]
    exact ⟨by rw [wOk, h1.1]; simp, by rw [wV, if_neg hne, numRaw_ok h1.1, h1.2]⟩
def midW (ws : List (List UInt8)) : List (List UInt8) := (ws.drop 3).take (ws.length - 4)
theorem bt_read {p : ByteArray} {s t f : Int} {zs : List Int} (h : Bt p s t f zs) {ws : List (List UInt8)} (hw : Words 32 p.data.toList ws) :
    5 ≤ ws.length ∧ wordOk (ws.getD 0 []) 98 = true ∧ wordRaw (ws.getD 0 []) 98 = s ∧ wordOk (ws.getD 1 []) 107 = true ∧ wordRaw (ws.getD 1 []) 107 = t ∧
      wordOk (ws.getD 2 []) 100 = true ∧ wordRaw (ws.getD 2 []) 100 = f ∧ (midW ws).all wOk = true ∧ (midW ws).map wV = zs := by
  have e := bt_words h hw
  obtain ⟨a, b, c, d⟩ := btOk_numB h.1
  obtain ⟨_, _, _, hl, _⟩ := btOk_facts h.1
  have wr : ∀ (x : UInt8) (n : Int), NumB n → wordRaw (x :: Lib.itoa n) x = n := fun x n hn => by
    have h1 := itoa_ok hn.1 hn.2
    rw [wordRaw, if_pos rfl, numRaw_ok h1.1, h1.2]
  have hm : midW ws = zs.map bdW := by
    rw [midW, e]
    simp [btWs]
  refine ⟨by rw [e]; simp [btWs]; omega, ?_, ?_, ?_, ?_, ?_, ?_, ?_, ?_⟩
  · rw [e]; exact wordOk_of (itoa_ok a.1 a.2).1
  · rw [e]; exact wr 98 s a
  · rw [e]; exact wordOk_of (itoa_ok b.1 b.2).1
  · rw [e]; exact wr 107 t b
  · rw [e]; exact wordOk_of (itoa_ok c.1 c.2).1
  · rw [e]; exact wr 100 f c
  · rw [hm, List.all_eq_true]
    intro q hq
    obtain ⟨v, hv, rfl⟩ := List.mem_map.1 hq
    exact (wOk_bdW (d v hv)).1
  · rw [hm, List.map_map]
    have h9 : ∀ l : List Int, (∀ v ∈ l, NumB v) → l.map (wV ∘ bdW) = l := by
      intro l
      induction l with
      | nil => intro _; rfl
      | cons v r ih =>
        intro h8
        rw [List.map_cons, ih fun x hx => h8 x (List.mem_cons_of_mem _ hx), Function.comp, (wOk_bdW (h8 v List.mem_cons_self)).2]
    exact h9 zs d
theorem numRaw_w (u : List UInt8) : wordRaw u 98 = wordRaw u 98 := rfl
theorem wordRaw_bound (u : List UInt8) (x : UInt8) : NumB (wordRaw u x) := by
  unfold wordRaw NumB
  split
  · rename_i c t
    have := numRaw_bound t
    split <;> omega
  · omega
end Go.Proofs.YtpdpcnblpcalaaaDoor
namespace Go.Proofs.YtpdpcnblpcalaaaDoor
open Go.RowKit
set_option linter.unusedVariables false

theorem bWs_len (zs : List Int) : zs.length ≤ (bWs zs).length := by
  induction zs with
  | nil => exact Nat.le_refl _
  | cons v r ih => rw [bWs_cons]; simp; omega
theorem BulP.len {R : List UInt8} {s t f : Int} {zs : List Int} (h : BulP R s t f zs) : zs.length ≤ R.length := by
  rw [h.back.1, bdL_eq]
  have := bWs_len zs
  simp; omega
theorem frR_own {w wr : World} {base : Nat} {ga : Option Addr} {c : Nat} {ys : List R4} (h : wr.ownsRow base 31 4 (.slice ga ys.length c) ys.length (flatR ys)) (hb : w.heap.size ≤ base) : FrR w wr ga ys ∧ ys.length ≤ c := by
  by_cases hz : ys = []
  · exact ⟨.inl hz, by rw [hz]; exact Nat.zero_le _⟩
  · obtain ⟨g, c', he, _, _⟩ := h.form (List.length_pos_iff.2 hz)
    simp only [Value.slice.injEq] at he
    obtain ⟨rfl, _, rfl⟩ := he
    exact ⟨.inr ⟨g, rfl, Nat.le_trans hb (World.ownsRow.lt h g rfl).1, (World.ownsRow.lt h g rfl).2, wrR_own h rfl⟩, own_cap h⟩
theorem own_keepP {w w' : World} {base e n size : Nat} {v : Value} {xs : List Value} (h : w.ownsRow base e size v n xs) (k : Keep w w') : w'.ownsRow base e size v n xs := by
  refine World.ownsRow.kept h (⟨Below.os k, Below.tape k, Below.output k, Below.size k, fun i hi _ => Below.block k i hi⟩ : w.grownBy w' none) ?_
  cases hv : v.ownBlock with
  | none => left; rfl
  | some k => right; simp
theorem newsP (w : World) {s d k v : Int} :
    ∀ j u, (rc (s, d, k, v))[j]? = some u → (w.alloc (.cells #[.int .i64 s, .int .i64 d, .int .i64 k, .int .i64 v] 31)).cell? ((⟨w.heap.size, 0, none⟩ : Addr).add j) = some u := by
  intro j u hj
  rw [Addr.add_lit, Nat.zero_add, World.cell?_alloc_new, ← hj]
  simp [rc, rS, rD, rK, rV]

theorem ptr_ne (a : Addr) : ∀ W : World, Sem.run Tryd.prog (binOp .neq 51 (.iface 119 (.pointer (some a))) .nilIface) W = .ok (.bool true) W := fun W => by kernel_rfl
theorem nil_ne : ∀ W : World, Sem.run Tryd.prog (binOp .neq 51 .nilIface .nilIface) W = .ok (.bool false) W := fun W => by kernel_rfl
set_option maxRecDepth 100000 in
set_option maxHeartbeats 2000000 in
theorem rb_bad (p : ByteArray) (a : Addr) (w : World) (hc : ∀ W, Keep w W → Calls Tryd.prog 30 #[.string p] W fun e w' => e = .returned (.tuple #[.string ⟨#[]⟩, .iface 119 (.pointer (some a))]) ∧ Keep W w') :
    Calls Tryd.prog 27 #[.string p] w fun e w' => e = .returned (.tuple #[.agg #[.int .i64 0, .int .i64 0, .int .i64 0, .slice none 0 0], .iface 119 (.pointer (some a))]) ∧ Keep w w' := by
  have HC := Lib.hid hc
  have hN := ptr_ne a
  clear hc
  go_enter Tryd.func27, Tryd.ntmps27
  go_wp2_with fail
  refine (HC.out _ ((Keep.refl w).alloc _)).mono ?_
  rintro e w1 ⟨rfl, k1⟩
  have c0 := k1.new 0 (v := .int .i64 0) rfl
  have c1 := k1.new 1 (v := .int .i64 0) rfl
  have c2 := k1.new 2 (v := .int .i64 0) rfl
  have c3 := k1.new 3 (v := .slice none 0 0) rfl
  have f0 := k1.fresh 0
  have f1 := k1.fresh 1
  have f2 := k1.fresh 2
  have f3 := k1.fresh 3
  have HK : Hid (Keep w w1) := Lib.hid (((Keep.refl w).alloc _).trans k1)
  clear HC
  go_wp2
  refine bodyPost_ret (v := .tuple #[.agg #[.int .i64 0, .int .i64 0, .int .i64 0, .slice none 0 0], .iface 119 (.pointer (some a))]) (by simp [results, Tryd.results27, go_sem, *]) rfl ⟨rfl, ?_⟩
  repeat' (first | with_reducible exact HK.out | with_reducible refine Keep.setCell ?_ (by omega) _)
def RbPost (p : ByteArray) (a : Addr) (w : World) (e : Ending) (w' : World) : Prop :=
  Keep w w' ∧ ((∃ s t f zs v c, Bt p s t f zs ∧ OwnI w' w.heap.size (.slice v zs.length c) zs ∧ e = .returned (.tuple #[.agg #[.int .i64 s, .int .i64 t, .int .i64 f, .slice v zs.length c], .nilIface])) ∨
    ((∀ s t f zs, ¬ Bt p s t f zs) ∧ e = .returned (.tuple #[.agg #[.int .i64 0, .int .i64 0, .int .i64 0, .slice none 0 0], .iface 119 (.pointer (some a))])))
set_option maxRecDepth 100000 in
set_option maxHeartbeats 4000000 in
theorem rb_good (p : ByteArray) (m : Nat) (a : Addr) (w : World) (T : Tabs w) (ha : w.cell? ⟨0, 0, none⟩ = some (.iface 119 (.pointer (some a)))) (hp : p.size ≤ 1048576) (hm : m < p.size) (h32 : p[m] = 32) (hno : ∀ (j : Nat) (h : j < p.size), m < j → p[j] ≠ 32) (hx : gX p m = true) :
    Calls Tryd.prog 27 #[.string p] w (RbPost p a w) := by
  have HC := Lib.hid (fun W (hk : Keep w W) => cf_yes p m a W (T.keep hk) (hk.cell ha) hp hm h32 hno hx)
  have HOF : Hid (∀ s t f zs, BulP (p.extract 0 m).data.toList s t f zs → btOk s t f zs = true → Bt p s t f zs) := Lib.hid (fun s t f zs hP hok => Bt.of hm h32 hx hP hok)
  have HNO : Hid (∀ s t f zs, Bt p s t f zs → BulP (p.extract 0 m).data.toList s t f zs) := Lib.hid (fun s t f zs hb => (bt_front hm h32 hno hb).2)
  have hN := nil_ne
  obtain ⟨x, hxx⟩ : ∃ x, p.extract 0 m = x := ⟨_, rfl⟩
  have hxs : x.size ≤ 1048576 := by rw [← hxx, ByteArray.size_extract]; omega
  have HLX : Hid (x.data.toList.length ≤ 1048576) := Lib.hid (by rw [ba_len]; exact hxs)
  rw [hxx] at HC HOF HNO
  have HBS : Hid (w.heap.size ≠ 0) := Lib.hid (fun e9 => by
    have h9 := World.block_lt_of_cell? w _ ha
    simp only at h9; omega)
  clear hxx hx h32 hno hm
  go_enter Tryd.func27, Tryd.ntmps27
  go_wp2_with fail
  refine (HC.out _ ((Keep.refl w).alloc _)).mono ?_
  rintro e w1 ⟨rfl, k1⟩
  have hz1 : w.heap.size < w1.heap.size := by have := k1.size; simp at this; omega
  obtain ⟨W2, hW2⟩ : ∃ W2, W2 = w1.alloc (.cells #[.string x, .int .i64 0] 78) := ⟨_, rfl⟩
  have HK2 : Hid (Keep (w.alloc (.cells #[.int .i64 0, .int .i64 0, .int .i64 0, .slice none 0 0] 44)) W2) := Lib.hid (by rw [hW2]; exact k1.alloc _)
  have hcur : CurR W2 w1.heap.size x x.data.toList := by
    rw [hW2]
    exact ⟨0, ⟨World.cell?_alloc_new w1 _ _ 0, World.cell?_alloc_new w1 _ _ 1, World.frozen?_alloc_at _ _ _ _ rfl, by simp, by omega, hxs⟩, rfl⟩
  have hs2 : W2.heap.size = w1.heap.size + 1 := by rw [hW2]; simp
  clear HC
  go_wp2_with fail
  rw [← hW2]
  clear hW2
  refine (bul_R w1.heap.size x _ W2 hcur).mono ?_
  rintro e w3 ⟨o3, hh⟩
  have hz3 := o3.size
  have HK3 : Hid (Keep (w.alloc (.cells #[.int .i64 0, .int .i64 0, .int .i64 0, .slice none 0 0] 44)) w3) := Lib.hid (HK2.out.trans' o3 (by simp; omega))
  have HKw : Hid (Keep w w3) := Lib.hid (((Keep.refl w).alloc _).trans HK3.out)
  have hga := HKw.out.cell ha
  have c0 := HK3.out.new 0 (v := .int .i64 0) rfl
  have c1 := HK3.out.new 1 (v := .int .i64 0) rfl
  have c2 := HK3.out.new 2 (v := .int .i64 0) rfl
  have c3 := HK3.out.new 3 (v := .slice none 0 0) rfl
  have f0 := HK3.out.fresh 0
  have f1 := HK3.out.fresh 1
  have f2 := HK3.out.fresh 2
  have f3 := HK3.out.fresh 3
  have hzw3 : w.heap.size < w3.heap.size := by omega
  have HT3 := Lib.hid (T.keep HKw.out)
  clear hcur o3 HK2 hz3 k1 T
  rcases hh with ⟨s, t, f, zs, v, hP, hO, rfl⟩ | ⟨hn, s, t, f, rfl⟩
  case' inr =>
    have HN := Lib.hid (fun s t f zs hb => hn s t f zs (HNO.out s t f zs hb))
    clear hn HNO HOF
    go_wp2_with fail
    go_region_held3 (fun w'' => Keep w w'' ∧ w''.cell? ⟨0, 0, none⟩ = some (.iface 119 (.pointer (some a)))) ((go_split_ands; refine (fun hK => ⟨hK, hK.cell ha⟩ : Keep w _ → _) ?_; (repeat' (first | with_reducible exact HKw.out | with_reducible exact Keep.refl _ | with_reducible refine Keep.drew ?_ | with_reducible refine Keep.drewN ?_ _ | with_reducible refine Keep.setCell ?_ (Nat.le_refl _) _ | with_reducible refine Keep.alloc ?_ _)))) (fail)
    all_goals
      go_wp2
      refine bodyPost_ret (v := .tuple #[.agg #[.int .i64 0, .int .i64 0, .int .i64 0, .slice none 0 0], .iface 119 (.pointer (some a))]) (by simp [results, Tryd.results27, go_sem, *]) rfl ⟨?_, .inr ⟨HN.out, rfl⟩⟩
      (repeat' (first | with_reducible exact HKw.out | with_reducible exact Keep.refl _ | with_reducible refine Keep.drew ?_ | with_reducible refine Keep.drewN ?_ _ | with_reducible refine Keep.setCell ?_ (Nat.le_refl _) _ | with_reducible refine Keep.alloc ?_ _))
  obtain ⟨av, cv, rfl, hls⟩ := hO.ls
  have hb := hP.back
  have hln := hP.len
  have hlx := HLX.out
  have HV := Lib.hid (fun W (hk : Keep w3 W) => bv_impl av cv s t f zs W (hls.keep hk) (by omega) (by have := hb.2.2.2.1; unfold NumB at this; omega))
  have HO := Lib.hid hO
  obtain ⟨ok, hok⟩ : ∃ ok, btOk s t f zs = ok := ⟨_, rfl⟩
  rw [hok] at HV
  cases ok
  · have HN : Hid (∀ s t f zs, ¬ Bt p s t f zs) := Lib.hid (fun s1 t1 f1 zs1 hb1 => by
      obtain ⟨rfl, rfl, rfl, rfl⟩ := (HNO.out _ _ _ _ hb1).unique hP
      rw [hb1.1] at hok; cases hok)
    clear hb hln hok hP hO hls hlx HNO HOF
    go_wp2_with fail
    refine (HV.out _ ((Keep.refl w3).alloc _)).mono ?_
    rintro e w4 ⟨rfl, k4⟩
    have K4 : Keep w3 w4 := Keep.trans ((Keep.refl w3).alloc _) k4
    have HK4 : Hid (Keep w w4) := Lib.hid (HKw.out.trans K4)
    have hga4 := HK4.out.cell ha
    have d0 := K4.cell c0
    have g0 := K4.still c0 f0
    have d1 := K4.cell c1
    have g1 := K4.still c1 f1
    have d2 := K4.cell c2
    have g2 := K4.still c2 f2
    have d3 := K4.cell c3
    have g3 := K4.still c3 f3
    clear k4 K4 c0 c1 c2 c3 f0 f1 f2 f3
    go_wp2_with fail
    go_region_held3 (fun w'' => Keep w w'' ∧ w''.cell? ⟨0, 0, none⟩ = some (.iface 119 (.pointer (some a)))) ((go_split_ands; refine (fun hK => ⟨hK, hK.cell ha⟩ : Keep w _ → _) ?_; (repeat' (first | with_reducible exact HK4.out | with_reducible exact Keep.refl _ | with_reducible refine Keep.drew ?_ | with_reducible refine Keep.drewN ?_ _ | with_reducible refine Keep.setCell ?_ (Nat.le_refl _) _ | with_reducible refine Keep.alloc ?_ _)))) (fail)
    all_goals
      go_wp2
      refine bodyPost_ret (v := .tuple #[.agg #[.int .i64 0, .int .i64 0, .int .i64 0, .slice none 0 0], .iface 119 (.pointer (some a))]) (by simp [results, Tryd.results27, go_sem, *]) rfl ⟨?_, .inr ⟨HN.out, rfl⟩⟩
      (repeat' (first | with_reducible exact HK4.out | with_reducible exact Keep.refl _ | with_reducible refine Keep.drew ?_ | with_reducible refine Keep.drewN ?_ _ | with_reducible refine Keep.setCell ?_ (Nat.le_refl _) _ | with_reducible refine Keep.alloc ?_ _))
  · have HB := Lib.hid (HOF.out s t f zs hP hok)
    clear hb hln hok hP hO hls hlx HNO HOF
    go_wp2_with fail
    refine (HV.out _ ((Keep.refl w3).alloc _)).mono ?_
    rintro e w4 ⟨rfl, k4⟩
    have K4 : Keep w3 w4 := Keep.trans ((Keep.refl w3).alloc _) k4
    have b0 := k4.new 0 (v := .int .i64 s) rfl
    have b1 := k4.new 1 (v := .int .i64 t) rfl
    have b2 := k4.new 2 (v := .int .i64 f) rfl
    have b3 := k4.new 3 (v := .slice av zs.length cv) rfl
    have HK4 : Hid (Keep w w4) := Lib.hid (HKw.out.trans K4)
    have HO4 := Lib.hid (HO.out.keep K4)
    have hlt4 : w.heap.size < W2.heap.size := by omega
    have hz4 := K4.size
    have d0 := K4.cell c0
    have g0 := K4.still c0 f0
    have d1 := K4.cell c1
    have g1 := K4.still c1 f1
    have d2 := K4.cell c2
    have g2 := K4.still c2 f2
    have d3 := K4.cell c3
    have g3 := K4.still c3 f3
    clear k4 K4 c0 c1 c2 c3 f0 f1 f2 f3
    go_wp2
    refine bodyPost_ret (v := .tuple #[.agg #[.int .i64 s, .int .i64 t, .int .i64 f, .slice av zs.length cv], .nilIface]) (by simp [results, Tryd.results27, go_sem, *]) rfl ⟨?_, .inl ⟨s, t, f, zs, av, cv, HB.out, ?_, rfl⟩⟩
    · repeat' (first | with_reducible exact HK4.out | with_reducible refine Keep.setCell ?_ (Nat.le_refl _) _)
    · refine OwnI.base (OwnI.only (B := w.heap.size) HO4.out ?_ hlt4) (by omega)
      (repeat' (first | with_reducible exact Only.refl _ _ | with_reducible refine Only.trans ?_ (only_set _ _ _ _)))
theorem rb_any (p : ByteArray) (a : Addr) (w : World) (T : Tabs w) (ha : w.cell? ⟨0, 0, none⟩ = some (.iface 119 (.pointer (some a)))) (hp : p.size ≤ 1048576) :
    Calls Tryd.prog 27 #[.string p] w (RbPost p a w) := by
  rcases last_blank p with hno | ⟨m, hm, h32, hno⟩
  · refine (rb_bad p a w fun W hk => cf_none p a W (hk.cell ha) hp hno).mono ?_
    rintro e w1 ⟨rfl, k1⟩
    exact ⟨k1, .inr ⟨no_bt_blank hno, rfl⟩⟩
  · rcases Bool.eq_false_or_eq_true (gX p m) with hx | hx
    · exact rb_good p m a w T ha hp hm h32 hno hx
    · refine (rb_bad p a w fun W hk => cf_not p m a W (T.keep hk) (hk.cell ha) hp hm h32 hno hx).mono ?_
      rintro e w1 ⟨rfl, k1⟩
      exact ⟨k1, .inr ⟨fun s t f zs hb => (by rw [(bt_front hm h32 hno hb).1] at hx; cases hx), rfl⟩⟩
theorem infoRepB : (Tryd.prog.info? 31).map (fun i => (i.zero, i.size, i.bytes)) = some (some (.agg #[.int .i64 0, .int .i64 0, .int .i64 0, .int .i64 0]), 4, 32) := by kernel_rfl
def RpsPost (s t f : Int) (zs : List Int) (w : World) (e : Ending) (w' : World) : Prop :=
  ∃ (a : Option Addr) (c : Nat), e = .returned (.slice a (bvR s t f zs zs.length).length c) ∧ (bvR s t f zs zs.length).length ≤ c ∧ FrR w w' a (bvR s t f zs zs.length) ∧ Keep w w'
set_option maxRecDepth 100000 in
set_option maxHeartbeats 4000000 in
theorem rps_impl (av : Option Addr) (cv : Nat) (s t f : Int) (zs : List Int) (w : World) (h : Ls w av zs) (hm : zs.length ≤ 12) (hf : 0 ≤ f ∧ f ≤ 999) :
    Calls Tryd.prog 29 #[.agg #[.int .i64 s, .int .i64 t, .int .i64 f, .slice av zs.length cv]] w (RpsPost s t f zs w) := by
  obtain ⟨i0, hi, hz0, hz1, hz2⟩ := info_parts infoRepB
  obtain ⟨W1, hW1⟩ : ∃ W1, W1 = w.alloc (.cells #[.int .i64 s, .int .i64 t, .int .i64 f, .slice av zs.length cv] 44) := ⟨_, rfl⟩
  have K1 : Keep w W1 := by rw [hW1]; exact (Keep.refl w).alloc _
  have c0 : W1.cell? ⟨w.heap.size, 0, none⟩ = some (.int .i64 s) := by rw [hW1]; exact World.cell?_alloc_new w _ _ 0
  have c1 : W1.cell? ⟨w.heap.size, 1, none⟩ = some (.int .i64 t) := by rw [hW1]; exact World.cell?_alloc_new w _ _ 1
  have c2 : W1.cell? ⟨w.heap.size, 2, none⟩ = some (.int .i64 f) := by rw [hW1]; exact World.cell?_alloc_new w _ _ 2
  have c3 : W1.cell? ⟨w.heap.size, 3, none⟩ = some (.slice av zs.length cv) := by rw [hW1]; exact World.cell?_alloc_new w _ _ 3
  have HL := Lib.hid (h.keep K1)
  have HK1 := Lib.hid K1
  have hs1 := K1.size
  clear h K1
  go_enter Tryd.func29, Tryd.ntmps29
  go_wp2_with fail
  rw [← hW1]
  clear hW1
  generalize w.heap.size = bx at c0 c1 c2 c3 ⊢
  go_wp2_with fail
  go_loopw [3, 9] (fun u i wr => ∃ (k n c : Nat) (ga : Option Addr), k ≤ zs.length ∧ i = .int .i64 k ∧ u = .slice ga n c ∧ Hid (n = (bvR s t f zs k).length) ∧ Hid (wr.ownsRow W1.heap.size 31 4 (.slice ga n c) n (flatR (bvR s t f zs k))) ∧ Keep W1 wr) (fun _ i _ => zs.length - (RowKit.intOf i).toNat)
  case atStart => exact ⟨0, 0, 0, none, by omega, rfl, rfl, Lib.hid rfl, Lib.hid (World.ownsRow_nil W1 _ _ _), Keep.refl W1⟩
  case round =>
    obtain ⟨k, n, c, ga, hk, rfl, rfl, HLN, HW, hK⟩ := hrel
    have hsz := hK.size
    have hln := bvR_len s t f zs k
    by_cases hlt : k < zs.length
    · have HRP := Lib.hid (fun W (hw : Keep wr W) => rp_impl av cv s t f zs k W ((HL.out.keep hK).keep hw) hlt (by omega) (by omega))
      obtain ⟨b, off, hae, hb, hcc⟩ := (HL.out.keep hK).all (by omega)
      have cz := hcc k hlt
      have HY : Hid (zs.getD k 0 ≠ -9999 → bvR s t f zs (k + 1) = bvR s t f zs k ++ [(s, f + (k : Int), t, zs.getD k 0)]) := Lib.hid (fun hy => by rw [bvR, if_neg hy])
      have HNO : Hid (zs.getD k 0 = -9999 → bvR s t f zs (k + 1) = bvR s t f zs k) := Lib.hid (fun hy => by rw [bvR, if_pos hy, List.append_nil])
      generalize zs.getD k 0 = z at *
      have r0 := hK.cell c0
      have r1 := hK.cell c1
      have r2 := hK.cell c2
      have r3 := hK.cell c3
      clear hcc
      by_cases hz : z = -9999
      · have hzd : (z != -9999) = false := by simp [hz]
        replace HY := Lib.hid (HNO.out hz)
        clear HNO hz HRP
        subst hae
        go_wp2
        go_roundw
        case rel => exact ⟨k + 1, n, c, ga, by omega, by go_num, rfl, Lib.hid (by rw [HY.out]; exact HLN.out), Lib.hid (by rw [HY.out]; exact HW.out), hK⟩
        case measure => simp [RowKit.intOf]; omega
      · have hzd : (z != -9999) = true := by simp [hz]
        replace HY := Lib.hid (HY.out hz)
        clear HNO hz
        generalize f + (k : Int) = d at HRP HY
        subst hae
        go_wp2_with fail
        refine (HRP.out _ (by (repeat' (first | with_reducible exact Keep.refl _ | with_reducible refine Keep.drewN ?_ _ | with_reducible refine Keep.drew ?_)))).mono ?_
        rintro e wC ⟨rfl, kC⟩
        have hlen : n ≤ 12 := by rw [HLN.out]; omega
        have HKC : Hid (Keep W1 wC) := Lib.hid (hK.trans kC)
        have hown2 : wC.ownsRow W1.heap.size 31 4 (.slice ga n c) n (flatR (bvR s t f zs k)) := own_keepP HW.out kC
        have hsC := HKC.out.size
        go_wp2_with (at_builtin; go_loud (refine wpList_append_own _ rfl _ _ 27 rfl W1.heap.size 31 i0 (.agg #[.int .i64 0, .int .i64 0, .int .i64 0, .int .i64 0]) 4 32 Tryd.underlying27 hi hz0 hz1 hz2 rfl (by decide) _ _ _ rfl (hown2.alloc _) ⟨wC.heap.size, 0, none⟩ 1 1 (rc (s, d, t, z)) rfl rfl (newsP wC) ?c2a ?c3a ?c4a ?c5a ?_))
        case c2a => exact rc_one _
        case c3a => unfold maxLen; omega
        case c4a => omega
        case c5a => first | omega | (simp; omega)
        intro v' w5 hown' hgrow hnil
        obtain ⟨g', c', rfl, hbg, hlg⟩ := hown'.form (by omega)
        have HN : Hid (w5.ownsRow W1.heap.size 31 4 (.slice (some ⟨g', 0, none⟩) (n + 1) c') (n + 1) (flatR (bvR s t f zs (k + 1)))) := Lib.hid (by rw [HY.out, flatR_app, flatR_one]; exact hown')
        have HN2 : Hid (n + 1 = (bvR s t f zs (k + 1)).length) := Lib.hid (by rw [HY.out, List.length_append, ← HLN.out]; rfl)
        have HK2 : Hid (Keep W1 w5) := Lib.hid (Below.grown (HKC.out.alloc (.cells #[.int .i64 s, .int .i64 d, .int .i64 t, .int .i64 z] 31)) hgrow (HKC.out.alloc (.cells #[.int .i64 s, .int .i64 d, .int .i64 t, .int .i64 z] 31)).size (fun q hq => (hown2.lt q hq).1))
        clear hown' hgrow hnil hown2 hlen
        go_wp2
        go_roundw
        case rel => exact ⟨k + 1, n + 1, c', some ⟨g', 0, none⟩, by omega, by go_num, rfl, HN2, HN, HK2.out⟩
        case measure => simp [RowKit.intOf]; omega
    · obtain rfl : k = zs.length := by omega
      have HF := Lib.hid (frR_own (w := w) (by have h1 := HW.out; rw [HLN.out] at h1; exact h1) hs1)
      go_wp2
      go_ret
      exact ⟨ga, c, by rw [HLN.out]; rfl, HF.out.2, HF.out.1, HK1.out.trans hK⟩
def BpPost (p : ByteArray) (w : World) (e : Ending) (w' : World) : Prop :=
  Keep w w' ∧ ∃ (a : Option Addr) (c : Nat) (rs : List R4), rs.length ≤ c ∧ FrR w w' a rs ∧
    ((∃ s t f zs, Bt p s t f zs ∧ rs = bvR s t f zs zs.length ∧ e = .returned (.tuple #[.slice a rs.length c, .bool true])) ∨
      ((∀ s t f zs, ¬ Bt p s t f zs) ∧ rs = [] ∧ e = .returned (.tuple #[.slice a 0 c, .bool false])))
set_option maxRecDepth 100000 in
set_option maxHeartbeats 2000000 in
theorem bp_impl (p : ByteArray) (w : World) (T : TabsE w) (hp : p.size ≤ 1048576) :
    Calls Tryd.prog 9 #[.string p] w (BpPost p w) := by
  obtain ⟨T1, a, ha⟩ := T
  have HR := Lib.hid (rb_any p a w T1 ha hp)
  have HI := Lib.hid (fun W => is_nil a W)
  have HJ := Lib.hid (fun W => is_same a W)
  go_enter Tryd.func9, Tryd.ntmps9
  go_wp2_with fail
  refine HR.out.mono ?_
  rintro e w1 ⟨k1, ⟨s, t, f, zs, v, c, hB, hO, rfl⟩ | ⟨hN, rfl⟩⟩
  · have ha1 := k1.cell ha
    have hgz : 0 < w1.heap.size := by have h9 := World.block_lt_of_cell? w1 _ ha1; simpa using h9
    have hgn : 0 ≠ w1.heap.size := by omega
    obtain ⟨_, _, hf, hl, _⟩ := btOk_facts hB.1
    obtain ⟨av, cv, hav, hls⟩ := hO.ls
    obtain ⟨rfl, rfl⟩ : v = av ∧ c = cv := by
      simp only [Value.slice.injEq] at hav; exact ⟨hav.1, hav.2.2⟩
    have HRP := Lib.hid (fun W (hk : Keep w1 W) => rps_impl v c s t f zs W (hls.keep hk) (by omega) hf)
    have HB := Lib.hid hB
    have hz1 := k1.size
    clear hB hO hls hav hl hf HR
    go_wp2_with fail
    refine (HI.out _).mono ?_
    rintro e w2 ⟨rfl, rfl⟩
    go_wp2_with fail
    refine (HRP.out _ ((Keep.refl w1).alloc _)).mono ?_
    rintro e w3 ⟨a3, c3, rfl, hc3, hF, k3⟩
    have HF := Lib.hid hF
    have K3 : Keep w w3 := (k1.alloc _).trans k3
    clear hF
    go_wp2
    go_ret2
    exact ⟨K3, a3, c3, _, hc3, HF.out.mono (by simp; omega), .inl ⟨s, t, f, zs, HB.out, rfl, rfl⟩⟩
  · have ha1 := k1.cell ha
    have hgz : 0 < w1.heap.size := by have h9 := World.block_lt_of_cell? w1 _ ha1; simpa using h9
    have hgn : 0 ≠ w1.heap.size := by omega
    have HN := Lib.hid hN
    clear hN HR
    go_wp2_with fail
    refine (HJ.out _).mono ?_
    rintro e w2 ⟨rfl, rfl⟩
    go_wp2
    go_ret2
    exact ⟨k1.alloc _, none, 0, [], Nat.le_refl _, .inl rfl, .inr ⟨HN.out, rfl, rfl⟩⟩
end Go.Proofs.YtpdpcnblpcalaaaDoor
namespace Go.Proofs.YtpdpcnblpcalaaaDoor
open Go.RowKit
set_option linter.unusedVariables false

theorem words_at {L : List UInt8} {m : Nat} (hm : m < L.length) (h32 : L[m] = 32) (hno : ∀ (j : Nat) (h : j < L.length), m < j → L[j] ≠ 32) {ps : List ByteArray} (h : Words 32 L (ps.map (·.data.toList))) :
    ∃ k, ps.length = k + 2 ∧ (ps.getD (k + 1) ⟨#[]⟩).data.toList = L.drop (m + 1) := by
  obtain ⟨init, last, e1, e2, e3⟩ := h
  have hl : (32 : UInt8) ∉ last := e3 last (by rw [e1]; simp)
  rcases List.eq_nil_or_concat init with rfl | ⟨i', q, rfl⟩
  · have e4 : L = last := by simpa [flat] using e2
    have : (32 : UInt8) ∈ last := by rw [← e4, ← h32]; exact List.getElem_mem _
    exact absurd this hl
  · rw [List.concat_eq_append] at e1 e2
    rw [flat_snoc] at e2
    have e4 : L = (flat 32 i' ++ q) ++ 32 :: last := by rw [e2]; simp
    have hlen := congrArg List.length e1
    simp only [List.length_map, List.length_append, List.length_cons, List.length_nil] at hlen
    have hc : (flat 32 i' ++ q).length = m := by
      generalize flat 32 i' ++ q = A at e4
      subst e4
      rcases Nat.lt_trichotomy A.length m with h9 | h9 | h9
      · exfalso
        obtain ⟨t, ht⟩ : ∃ t, m - A.length = t + 1 := ⟨m - A.length - 1, by omega⟩
        rw [List.getElem_append_right (by omega)] at h32
        simp only [ht, List.getElem_cons_succ] at h32
        exact hl (by rw [← h32]; exact List.getElem_mem _)
      · exact h9
      · exfalso
        refine hno A.length (by simp) h9 ?_
        rw [List.getElem_append_right (Nat.le_refl _)]
        simp
    refine ⟨i'.length, by omega, ?_⟩
    have e5 : (ps.getD (i'.length + 1) ⟨#[]⟩).data.toList = (ps.map (·.data.toList)).getD (i'.length + 1) [] := by
      have : i'.length + 1 < ps.length := by omega
      simp [List.getD_eq_getElem?_getD, this]
    rw [e5, e1, e4, ← hc]
    have e6 : ((flat 32 i' ++ q) ++ 32 :: last).drop ((flat 32 i' ++ q).length + 1) = last := by
      rw [List.drop_append, List.drop_of_length_le (by omega), Nat.add_sub_cancel_left]; rfl
    rw [e6]
    simp [List.getD_eq_getElem?_getD]
theorem words_none {L : List UInt8} (hno : (32 : UInt8) ∉ L) {ps : List ByteArray} (h : Words 32 L (ps.map (·.data.toList))) : ps.length = 1 := by
  obtain ⟨init, last, e1, e2, e3⟩ := h
  rcases List.eq_nil_or_concat init with rfl | ⟨i', q, rfl⟩
  · have := congrArg List.length e1
    simpa using this
  · rw [List.concat_eq_append] at e2
    rw [flat_snoc] at e2
    exact absurd (by rw [e2]; simp) hno
theorem own_str {w : World} {base : Nat} {v : Value} {ps : List ByteArray} (h : w.ownsRow base 9 1 v ps.length (ps.map Value.string)) (h0 : 0 < ps.length) :
    ∃ g cap, v = .slice (some ⟨g, 0, none⟩) ps.length cap ∧ ∀ i, i < ps.length → w.cell? ⟨g, i, none⟩ = some (.string (ps.getD i ⟨#[]⟩)) := by
  obtain ⟨g, cap, hv, _, hlt⟩ := h.form h0
  refine ⟨g, cap, hv, fun i hi => ?_⟩
  have := h.cells (g := g) (by rw [hv]; rfl) i (.string (ps.getD i ⟨#[]⟩)) (by simp [hi, List.getD_eq_getElem?_getD])
  by_cases hi0 : i = 0
  · subst hi0; simpa [Addr.add] using this
  · simpa [Addr.add, hi0] using this
theorem own_max {w : World} {base : Nat} {v : Value} {ps : List ByteArray} (h : w.ownsRow base 9 1 v ps.length (ps.map Value.string)) (h0 : 0 < ps.length) : ps.length ≤ 9223372036854775807 := by
  rcases h.2 with ⟨_, hn⟩ | ⟨g, cap, cur, hv, hb, hg, h1, h2, _⟩
  · omega
  · unfold maxLen at h2; omega
set_option maxRecDepth 100000 in
set_option maxHeartbeats 2000000 in
theorem sg_at (p : ByteArray) (m : Nat) (w : World) (hp : p.size ≤ 1048576) (hm : m < p.size) (h32 : p[m] = 32) (hno : ∀ (j : Nat) (h : j < p.size), m < j → p[j] ≠ 32) :
    Calls Tryd.prog 34 #[.string p] w fun e w' => e = .returned (.bool (gX p m)) ∧ Keep w w' := by
  have HWA := Lib.hid (fun ps h => words_at (L := p.data.toList) (m := m) (by rw [ba_len]; exact hm) h32 (fun j h => hno j (by rw [ba_len] at h; exact h)) (ps := ps) h)
  have HCT := Lib.hid (cut_any p 32 w (by omega))
  clear h32 hno
  obtain ⟨x, hxx⟩ : ∃ x, p.extract 0 m = x := ⟨_, rfl⟩
  have hxs : x.size ≤ 1048576 := by rw [← hxx, ByteArray.size_extract]; omega
  have hlt := bsL_lt x.data.toList
  have HBS := Lib.hid (fun W => bs_spec x W (by omega))
  have HG : Hid (gX p m = ((p.extract (m + 1) p.size).toList == (⟨(61 :: Lib.itoa (bsL x.data.toList : Int)).toArray⟩ : ByteArray).toList)) := Lib.hid (by rw [← hxx]; rfl)
  generalize bsL x.data.toList = n at *
  have hds := dtx_size (n := (n : Int)) (by omega) (by omega)
  have HE : Hid ((⟨#[61]⟩ : ByteArray) ++ dtx n = ⟨(61 :: Lib.itoa (n : Int)).toArray⟩) := Lib.hid (bytes_eq (by simp [dtx_list]))
  rw [← HE.out] at HG
  go_enter Tryd.func34, Tryd.ntmps34
  go_wp2_with fail
  refine HCT.out.mono ?_
  rintro e w1 ⟨ps, v, rfl, hown, hW, k1, _⟩
  obtain ⟨k, hk, hla⟩ := HWA.out ps hW
  obtain ⟨g, cap, rfl, hc⟩ := own_str hown (by omega)
  have cl := hc (k + 1) (by omega)
  obtain ⟨u, hu⟩ : ∃ u, ps.getD (k + 1) ⟨#[]⟩ = u := ⟨_, rfl⟩
  rw [hu] at cl hla
  have hue : u = p.extract (m + 1) p.size := by
    refine (bytes_eq hla).trans (bytes_eq ?_).symm
    rw [ByteArray.data_extract, Array.toList_extract, List.extract_eq_take_drop, ← ba_len p, List.take_of_length_le (by rw [List.length_drop]; omega)]
  have hus : u.size + (m + 1) = p.size := by rw [hue, ByteArray.size_extract]; omega
  rw [← hue] at HG
  obtain ⟨N, hN⟩ : ∃ N, ps.length = N := ⟨_, rfl⟩
  rw [hN] at hk
  have hcn : N ≤ 9223372036854775807 := by rw [← hN]; exact own_max hown (by omega)
  have s1 : (N : Int) - 1 = ((k + 1 : Nat) : Int) := by omega
  have s2 : IntKind.i64.wrap ((N : Int) - 1) = ((k + 1 : Nat) : Int) := by rw [s1]; exact IntWalk.i64_in _ (by omega)
  have s3 : (0 : Int) ≤ ((k + 1 : Nat) : Int) := by omega
  have s4 : ((k + 1 : Nat) : Int) < (N : Int) := by omega
  have s5 : decide ((N : Int) < 2) = false := decide_eq_false (by omega)
  have s6 : ¬ (N : Int) < 2 := by omega
  have t1 : IntKind.i64.wrap ((p.size : Int) - (u.size : Int)) = (m : Int) + 1 := by
    rw [show (p.size : Int) - (u.size : Int) = (m : Int) + 1 by omega]; exact IntWalk.i64_in _ (by omega)
  have t2 : IntKind.i64.wrap (m : Int) = (m : Int) := IntWalk.i64_in _ (by omega)
  have t3 : (0 : Int) ≤ (m : Int) := by omega
  have t4 : (m : Int) ≤ (p.size : Int) := by omega
  have t5 : m ≤ p.size := by omega
  clear hown hW hc hla hue
  rw [hN]
  go_wp2_with fail
  try rw [hxx]
  refine (HBS.out _).mono ?_
  rintro e w2 ⟨rfl, rfl⟩
  go_wp2_with fail
  refine (dec_any _ _ (by omega) (by omega)).mono ?_
  rintro e w3 ⟨rfl, k3⟩
  go_wp2
  go_ret
  exact ⟨retB HG.out.symm, k1.trans k3⟩
set_option maxRecDepth 100000 in
set_option maxHeartbeats 2000000 in
theorem sg_none (p : ByteArray) (w : World) (hp : p.size ≤ 1048576) (hno : ∀ (j : Nat) (h : j < p.size), p[j] ≠ 32) :
    Calls Tryd.prog 34 #[.string p] w fun e w' => e = .returned (.bool false) ∧ Keep w w' := by
  have hn2 : (32 : UInt8) ∉ p.data.toList := fun h => by
    obtain ⟨j, hj, he⟩ := List.getElem_of_mem h
    exact hno j (by rw [ba_len] at hj; exact hj) he
  have HWN := Lib.hid (fun ps h => words_none hn2 (ps := ps) h)
  have HCT := Lib.hid (cut_any p 32 w (by omega))
  clear hno hn2
  go_enter Tryd.func34, Tryd.ntmps34
  go_wp2_with fail
  refine HCT.out.mono ?_
  rintro e w1 ⟨ps, v, rfl, hown, hW, k1, _⟩
  have hk := HWN.out ps hW
  obtain ⟨g, cap, rfl, hc⟩ := own_str hown (by omega)
  have cl := hc 0 (by omega)
  generalize ps.getD 0 ⟨#[]⟩ = u at *
  clear hown hW hc
  rw [hk]
  go_wp2
  go_ret
  exact ⟨rfl, k1⟩
end Go.Proofs.YtpdpcnblpcalaaaDoor
namespace Go.Proofs.YtpdpcnblpcalaaaDoor
open Go.RowKit
set_option linter.unusedVariables false

theorem btOk_out {s t f : Int} {zs : List Int} (hf : inB f 0 999 = false) : btOk s t f zs = false := by
  rw [btOk, btB, saB, hf]; simp
set_option maxRecDepth 100000 in
set_option maxHeartbeats 3200000 in
theorem bo_wide (a : Option Addr) (c : Nat) (s t f : Int) (zs : List Int) (w : World) (h : Ls w a zs) (hm : zs.length ≤ 1048576) (hf : inB f 0 999 = false) :
    Calls Tryd.prog 23 #[.int .i64 s, .int .i64 t, .int .i64 f, .slice a zs.length c] w fun e w' => e = .returned (.bool false) ∧ Keep w w' := by
  go_enter Tryd.func23, Tryd.ntmps23
  go_wp2_with fail
  go_loopw [9] (fun i wr => ∃ k : Nat, k ≤ zs.length ∧ i = .int .i64 k ∧ Keep w wr) (fun i _ => zs.length - (RowKit.intOf i).toNat)
  case atStart => exact ⟨0, by omega, rfl, Keep.refl _⟩
  case round =>
    obtain ⟨k, hk, rfl, hK⟩ := hrel
    by_cases hlt : k < zs.length
    · obtain ⟨b, off, hae, hb, hc⟩ := (h.keep hK).all (by omega)
      have cz := hc k hlt
      subst hae
      generalize zs.getD k 0 = z at *
      clear hc
      by_cases hz : z = -9999
      · have hzd : (z != -9999) = false := by simp [hz]
        clear hz
        go_wp2
        go_roundw
        case rel => exact ⟨k + 1, by omega, by go_num, hK⟩
        case measure => simp [RowKit.intOf]; omega
      · have hzd : (z != -9999) = true := by simp [hz]
        clear hz
        go_wp2_with fail
        refine (rv_spec _ _ _ _ _).mono ?_
        rintro e w1 ⟨rfl, k1⟩
        have hK1 : Keep w w1 := hK.trans k1
        generalize rOk _ _ _ _ = r
        cases r
        · go_wp2
          go_ret
          exact ⟨rfl, hK1⟩
        · go_wp2
          go_roundw
          case rel => exact ⟨k + 1, by omega, by go_num, hK1⟩
          case measure => simp [RowKit.intOf]; omega
    · obtain rfl : k = zs.length := by omega
      have hb1 : kOk t = true ∨ kOk t = false := by cases kOk t <;> simp
      have hb2 : inB s 1 9 = true ∨ inB s 1 9 = false := by cases inB s 1 9 <;> simp
      clear hk hlt
      go_wp2_with fail
      refine (kl_spec _ _).mono ?_
      rintro e w1 ⟨rfl, rfl⟩
      rcases hb1 with hb1 | hb1
      case' inr =>
        rw [hb1]
        go_wp2
        go_ret
        exact ⟨rfl, hK⟩
      rw [hb1]
      go_wp2_with fail
      refine (l6In_any _ _ _ _).mono ?_
      rintro e w1 ⟨rfl, rfl⟩
      rcases hb2 with hb2 | hb2
      case' inr =>
        rw [hb2]
        go_wp2
        go_ret
        exact ⟨rfl, hK⟩
      rw [hb2]
      go_wp2_with fail
      refine (l6In_any _ _ _ _).mono ?_
      rintro e w1 ⟨rfl, rfl⟩
      rw [hf]
      go_wp2
      go_ret
      exact ⟨rfl, hK⟩
set_option maxHeartbeats 3200000 in
theorem bt_spec' (a : Option Addr) (c : Nat) (s t f : Int) (zs : List Int) (w : World) (h : Ls w a zs) (hm : zs.length ≤ 1048576) :
    Calls Tryd.prog 8 #[.int .i64 s, .int .i64 t, .int .i64 f, .slice a zs.length c] w fun e w' => e = .returned (.string (btT s t f zs)) ∧ Keep w w' := by
  rcases Bool.eq_false_or_eq_true (inB f 0 999) with hf | hf
  · exact bt_spec a c s t f zs w h hm (by simp [inB] at hf; omega)
  · have HB := Lib.hid (bo_wide a c s t f zs w h hm hf)
    have HT := Lib.hid (btT_no (btOk_out (s := s) (t := t) (zs := zs) hf))
    clear hf
    go_enter Tryd.func8, Tryd.ntmps8
    go_wp2_with fail
    refine HB.out.mono ?_
    rintro e w1 ⟨rfl, k1⟩
    go_wp2
    go_ret
    exact ⟨retS HT.out.symm, k1⟩
set_option maxHeartbeats 3200000 in
theorem bv_wide (a : Option Addr) (c : Nat) (s t f : Int) (zs : List Int) (w : World) (hf : inB f 0 999 = false) :
    Calls Tryd.prog 21 #[.agg #[.int .i64 s, .int .i64 t, .int .i64 f, .slice a zs.length c]] w fun e w' => e = .returned (.bool false) ∧ Keep w w' := by
  have HSA := Lib.hid (fun W => sa_impl s t f zs.length W)
  have e1 : saB s t f zs.length = false := by rw [saB, hf]; simp
  rw [e1] at HSA
  have H0 := World.cell?_alloc_new w #[.int .i64 s, .int .i64 t, .int .i64 f, .slice a zs.length c] 44 0
  have H1 := World.cell?_alloc_new w #[.int .i64 s, .int .i64 t, .int .i64 f, .slice a zs.length c] 44 1
  have H2 := World.cell?_alloc_new w #[.int .i64 s, .int .i64 t, .int .i64 f, .slice a zs.length c] 44 2
  have H3 := World.cell?_alloc_new w #[.int .i64 s, .int .i64 t, .int .i64 f, .slice a zs.length c] 44 3
  clear e1 hf
  go_enter Tryd.func21, Tryd.ntmps21
  go_wp2_with fail
  refine (HSA.out _).mono ?_
  rintro e w1 ⟨rfl, rfl⟩
  go_wp2
  go_ret
  exact ⟨rfl, (Keep.refl w).alloc _⟩
set_option maxHeartbeats 3200000 in
theorem bt_impl' (a : Option Addr) (c : Nat) (s t f : Int) (zs : List Int) (w : World) (T : Tabs w) (h : Ls w a zs) (hm : zs.length ≤ 1048576) :
    Calls Tryd.prog 7 #[.int .i64 s, .int .i64 t, .int .i64 f, .slice a zs.length c] w fun e w' => e = .returned (.string (btT s t f zs)) ∧ Keep w w' := by
  rcases Bool.eq_false_or_eq_true (inB f 0 999) with hf | hf
  · exact bt_impl a c s t f zs w T h hm (by simp [inB] at hf; omega)
  · obtain ⟨w1, hw1⟩ : ∃ w1, w1 = w.alloc (.cells #[.int .i64 s, .int .i64 t, .int .i64 f, .slice a zs.length c] 44) := ⟨_, rfl⟩
    have K1 : Keep w w1 := by rw [hw1]; exact (Keep.refl w).alloc _
    have HB := Lib.hid (bv_wide a c s t f zs w1 hf)
    have HT := Lib.hid (btT_no (btOk_out (s := s) (t := t) (zs := zs) hf))
    have K1w := Lib.hid K1
    clear hf T h K1
    go_enter Tryd.func7, Tryd.ntmps7
    go_wp2_with fail
    rw [← hw1]
    refine HB.out.mono ?_
    rintro e w2 ⟨rfl, k1⟩
    clear hw1
    go_wp2
    go_ret
    exact ⟨retS HT.out.symm, K1w.out.trans k1⟩
end Go.Proofs.YtpdpcnblpcalaaaDoor
namespace Go.Proofs.YtpdpcnblpcalaaaDoor
open Go.RowKit
set_option linter.unusedVariables false

def VlPost (us : List ByteArray) (w : World) (e : Ending) (w' : World) : Prop :=
  Keep w w' ∧ ((((us.map (·.data.toList)).all wOk = true) ∧ ∃ v, OwnI w' w.heap.size v ((us.map (·.data.toList)).map wV) ∧ e = .returned (.tuple #[v, .bool true])) ∨
    (((us.map (·.data.toList)).all wOk = false) ∧ ∃ a n c, e = .returned (.tuple #[.slice a n c, .bool false])))
def vlN (us : List ByteArray) (k : Nat) : List Int := (((us.map (·.data.toList)).map wV)).take k
theorem vlN_succ {us : List ByteArray} {k : Nat} (hk : k < us.length) : vlN us (k + 1) = vlN us k ++ [wV (us.getD k ⟨#[]⟩).data.toList] := by
  unfold vlN
  rw [List.take_succ_eq_append_getElem (by simpa using hk)]
  simp [List.getD_eq_getElem?_getD, hk]
theorem vlN_len {us : List ByteArray} {k : Nat} (hk : k ≤ us.length) : (vlN us k).length = k := by simp [vlN]; omega
set_option maxRecDepth 100000 in
set_option maxHeartbeats 4000000 in
theorem vl_spec (g off cap : Nat) (us : List ByteArray) (w : World) (hc : ∀ i, i < us.length → w.cell? ⟨g, off + i, none⟩ = some (.string (us.getD i ⟨#[]⟩))) (hs : ∀ i, i < us.length → (us.getD i ⟨#[]⟩).size ≤ 1048576) (hl : us.length ≤ 1048577) :
    Calls Tryd.prog 36 #[.slice (some ⟨g, off, none⟩) us.length cap] w (VlPost us w) := by
  obtain ⟨i0, hi, hz0, hz1, hz2⟩ := info_parts infoInt'
  have HC := Lib.hid hc
  have HS := Lib.hid hs
  clear hc hs
  go_enter Tryd.func36, Tryd.ntmps36
  go_wp2_with fail
  go_loopw [4, 5] (fun u i wr => ∃ k n : Nat, k ≤ us.length ∧ i = .int .i64 k ∧ Hid (n = k) ∧ (∃ a c, u = .slice a n c) ∧ Hid (OwnI wr w.heap.size u (vlN us k)) ∧ Hid (∀ j, j < k → wOk (us.getD j ⟨#[]⟩).data.toList = true) ∧ Keep w wr) (fun _ i _ => us.length - (RowKit.intOf i).toNat)
  case atStart => exact ⟨0, 0, by omega, rfl, Lib.hid rfl, ⟨_, _, rfl⟩, Lib.hid (World.ownsRow_made w #[] 0 (Nat.le_refl _) (by unfold maxLen; omega) rfl), Lib.hid (fun j hj => absurd hj (by omega)), (Keep.refl w).alloc _⟩
  case round =>
    obtain ⟨k, n, hk, rfl, HN, ⟨a, c, rfl⟩, HO, HA, hK⟩ := hrel
    have hsz := hK.size
    by_cases hlt : k < us.length
    · have cz := hK.cell (HC.out k hlt)
      have hus := HS.out k hlt
      have HV := Lib.hid (vlN_succ hlt)
      have HA2 := Lib.hid (fun (h9 : wOk (us.getD k ⟨#[]⟩).data.toList = true) => fun j (hj : j < k + 1) => (show wOk (us.getD j ⟨#[]⟩).data.toList = true by
        by_cases e : j < k
        · exact HA.out j e
        · obtain rfl : j = k := by omega
          exact h9))
      have HF : Hid (wOk (us.getD k ⟨#[]⟩).data.toList = false → (us.map (·.data.toList)).all wOk = false) := Lib.hid (fun h9 => by
        rcases Bool.eq_false_or_eq_true ((us.map (·.data.toList)).all wOk) with h8 | h8
        · have h7 := List.all_eq_true.1 h8 (us.getD k ⟨#[]⟩).data.toList (by
            refine List.mem_map.2 ⟨_, ?_, rfl⟩
            rw [List.getD_eq_getElem?_getD, List.getElem?_eq_getElem hlt, Option.getD_some]
            exact List.getElem_mem _)
          rw [h9] at h7; cases h7
        · exact h8)
      generalize us.getD k ⟨#[]⟩ = u at *
      have HNM := Lib.hid (fun W => snumber_any u W hus)
      clear HA
      have hbd := numRaw_bound u.data.toList
      have HW : Hid (wV u.data.toList = if u.data.toList = [47] then -9999 else numRaw u.data.toList) := Lib.hid rfl
      have HK0 : Hid (wOk u.data.toList = (u.data.toList == [47] || numOk u.data.toList)) := Lib.hid rfl
      have htl : u.toList = u.data.toList := ByteArray.toList_eq u
      go_wp2_with fail
      refine (HNM.out _).mono ?_
      rintro e w1 ⟨rfl, rfl⟩
      by_cases h47 : u.data.toList = [47]
      · have HWV : Hid (wV u.data.toList = -9999) := Lib.hid (by rw [HW.out, if_pos h47])
        have HOKV := Lib.hid (HA2.out (by rw [HK0.out, h47]; rfl))
        have hcmp : (u.toList == [47]) = true := by rw [htl, h47]; simp
        clear HA2 HF HK0 HW HNM htl h47
        generalize numRaw u.data.toList = z at *
        generalize numOk u.data.toList = ok at *
        have hown : wr.ownsRow w.heap.size 3 1 (.slice a n c) n ((vlN us k).map (Value.int .i64)) := by
          have h9 := HO.out
          unfold OwnI at h9
          rw [show (vlN us k).length = n from (vlN_len hk).trans HN.out.symm] at h9
          exact h9
        have hnl : n ≤ 1048577 := by have := HN.out; omega
        go_wp2_with (at_builtin; refine wpList_append_own _ rfl _ _ 23 rfl w.heap.size 3 i0 (.int .i64 0) 1 8 Tryd.underlying23 hi hz0 hz1 hz2 rfl (by decide) _ _ _ rfl (hown.alloc _) ⟨wr.heap.size, 0, none⟩ 1 1 [.int .i64 (-9999)] rfl rfl ?c1a ?c2a ?c3a ?c4a ?c5a ?_)
        case c1a =>
          intro j u hj
          match j, hj with
          | 0, hj => simp at hj; subst hj; simp [Addr.add]
        case c2a => first | rfl | (intro u hu; simp at hu; subst hu; rfl)
        case c3a => unfold maxLen; omega
        case c4a => omega
        case c5a => simp; omega
        intro v' w9 hown' hgrow hnil
        obtain ⟨g', c', rfl, hbg, hlg⟩ := hown'.form (by omega)
        have hrow : ∀ g, _ = some g → w.heap.size ≤ g := fun g hg => (hown.lt g hg).1
        have HN2 : Hid (OwnI w9 w.heap.size (.slice (some ⟨g', 0, none⟩) (n + 1) c') (vlN us (k + 1))) := Lib.hid (by
          unfold OwnI
          rw [vlN_len (by omega), HV.out, HWV.out]
          have h9 := hown'
          rw [HN.out] at h9
          simpa [HN.out] using h9)
        have HG := Lib.hid ((hK.alloc _).grown' hgrow hrow)
        have HN1 := Lib.hid (show n + 1 = k + 1 from by rw [HN.out])
        clear hown' hgrow hnil hown hrow
        go_wp2
        go_roundw
        case rel => exact ⟨k + 1, n + 1, by omega, by go_num, HN1, ⟨_, _, rfl⟩, HN2, HOKV, HG.out⟩
        case measure => simp [RowKit.intOf]; omega
      · have HWV : Hid (wV u.data.toList = numRaw u.data.toList) := Lib.hid (by rw [HW.out, if_neg h47])
        have HKV : Hid (wOk u.data.toList = numOk u.data.toList) := Lib.hid (by rw [HK0.out, beq_eq_false_iff_ne.2 h47]; rfl)
        have hcmp : (u.toList == [47]) = false := by rw [htl]; exact beq_eq_false_iff_ne.2 h47
        have hcmp2 : ¬ u.toList = [47] := by rw [htl]; exact h47
        clear HK0 HW HNM htl h47
        generalize numRaw u.data.toList = z at *
        generalize numOk u.data.toList = ok at *
        cases ok
        · have HF2 := Lib.hid (HF.out HKV.out)
          clear HA2 HF HWV HV
          go_wp2
          go_ret2
          exact ⟨hK, .inr ⟨HF2.out, _, _, _, rfl⟩⟩
        have HOKV := Lib.hid (HA2.out HKV.out)
        clear HA2 HF HKV
        have hown : wr.ownsRow w.heap.size 3 1 (.slice a n c) n ((vlN us k).map (Value.int .i64)) := by
          have h9 := HO.out
          unfold OwnI at h9
          rw [show (vlN us k).length = n from (vlN_len hk).trans HN.out.symm] at h9
          exact h9
        have hnl : n ≤ 1048577 := by have := HN.out; omega
        go_wp2_with (at_builtin; refine wpList_append_own _ rfl _ _ 23 rfl w.heap.size 3 i0 (.int .i64 0) 1 8 Tryd.underlying23 hi hz0 hz1 hz2 rfl (by decide) _ _ _ rfl (hown.alloc _) ⟨wr.heap.size, 0, none⟩ 1 1 [.int .i64 z] rfl rfl ?c1b ?c2b ?c3b ?c4b ?c5b ?_)
        case c1b =>
          intro j u hj
          match j, hj with
          | 0, hj => simp at hj; subst hj; simp [Addr.add]
        case c2b => first | rfl | (intro u hu; simp at hu; subst hu; rfl)
        case c3b => unfold maxLen; omega
        case c4b => omega
        case c5b => simp; omega
        intro v' w9 hown' hgrow hnil
        obtain ⟨g', c', rfl, hbg, hlg⟩ := hown'.form (by omega)
        have hrow : ∀ g, _ = some g → w.heap.size ≤ g := fun g hg => (hown.lt g hg).1
        have HN2 : Hid (OwnI w9 w.heap.size (.slice (some ⟨g', 0, none⟩) (n + 1) c') (vlN us (k + 1))) := Lib.hid (by
          unfold OwnI
          rw [vlN_len (by omega), HV.out, HWV.out]
          have h9 := hown'
          rw [HN.out] at h9
          simpa [HN.out] using h9)
        have HG := Lib.hid ((hK.alloc _).grown' hgrow hrow)
        have HN1 := Lib.hid (show n + 1 = k + 1 from by rw [HN.out])
        clear hown' hgrow hnil hown hrow
        go_wp2
        go_roundw
        case rel => exact ⟨k + 1, n + 1, by omega, by go_num, HN1, ⟨_, _, rfl⟩, HN2, HOKV, HG.out⟩
        case measure => simp [RowKit.intOf]; omega
    · obtain rfl : k = us.length := by omega
      have HAll : Hid ((us.map (·.data.toList)).all wOk = true) := Lib.hid (List.all_eq_true.2 fun q hq => by
        obtain ⟨x, hx, rfl⟩ := List.mem_map.1 hq
        obtain ⟨j, hj, rfl⟩ := List.getElem_of_mem hx
        have := HA.out j hj
        rw [List.getD_eq_getElem?_getD, List.getElem?_eq_getElem hj, Option.getD_some] at this
        exact this)
      have HO2 : Hid (OwnI wr w.heap.size (.slice a n c) ((us.map (·.data.toList)).map wV)) := Lib.hid (by
        have h9 := HO.out
        unfold vlN at h9
        rw [List.take_of_length_le (by simp)] at h9
        exact h9)
      clear HA HO
      go_wp2
      go_ret2
      exact ⟨hK, .inl ⟨HAll.out, _, HO2.out, rfl⟩⟩
theorem bo_any (a : Option Addr) (c : Nat) (s t f : Int) (zs : List Int) (w : World) (h : Ls w a zs) (hm : zs.length ≤ 1048576) :
    Calls Tryd.prog 23 #[.int .i64 s, .int .i64 t, .int .i64 f, .slice a zs.length c] w fun e w' => e = .returned (.bool (btOk s t f zs)) ∧ Keep w w' := by
  rcases Bool.eq_false_or_eq_true (inB f 0 999) with hf | hf
  · exact bo_spec a c s t f zs w h hm (by simp [inB] at hf; omega)
  · rw [btOk_out hf]; exact bo_wide a c s t f zs w h hm hf
theorem infoRepS : (Tryd.prog.info? 31).map (fun i => (i.zero, i.size, i.bytes)) = some (some (.agg #[.int .i64 0, .int .i64 0, .int .i64 0, .int .i64 0]), 4, 32) := by kernel_rfl
theorem ws_get {ps : List ByteArray} {i : Nat} (h : i < ps.length) : (ps.map (·.data.toList)).getD i [] = (ps.getD i ⟨#[]⟩).data.toList := by
  simp [List.getD_eq_getElem?_getD, h]
def midP (ps : List ByteArray) : List ByteArray := (ps.drop 3).take (ps.length - 4)
theorem midP_map (ps : List ByteArray) : (midP ps).map (·.data.toList) = midW (ps.map (·.data.toList)) := by
  simp [midP, midW]
theorem midP_len {ps : List ByteArray} (h : 5 ≤ ps.length) : (midP ps).length = ps.length - 4 := by simp [midP]; omega
theorem midP_get {ps : List ByteArray} {i : Nat} (h : i < (midP ps).length) : (midP ps).getD i ⟨#[]⟩ = ps.getD (3 + i) ⟨#[]⟩ ∧ 3 + i < ps.length := by
  have h2 : i < ps.length - 4 := by
    have : (midP ps).length ≤ ps.length - 4 := by simp [midP]; omega
    omega
  refine ⟨?_, by omega⟩
  simp only [List.getD_eq_getElem?_getD]
  rw [midP, List.getElem?_take_of_lt h2, List.getElem?_drop]
theorem words_size' {x : UInt8} {l : List UInt8} {ps : List (List UInt8)} (hw : Words x l ps) : (∀ q ∈ ps, q.length ≤ l.length) ∧ ps.length ≤ l.length + 1 := by
  obtain ⟨init, last, rfl, rfl, _⟩ := hw
  have h : ∀ i : List (List UInt8), (∀ q ∈ i, q.length ≤ (flat x i).length) ∧ i.length ≤ (flat x i).length := by
    intro i
    induction i with
    | nil => exact ⟨fun q hq => absurd hq (by simp), Nat.le_refl _⟩
    | cons a r ih =>
      refine ⟨fun q hq => ?_, ?_⟩
      · rw [flat, List.length_append, List.length_cons]
        rcases List.mem_cons.1 hq with rfl | hq
        · omega
        · have := ih.1 q hq; omega
      · rw [flat, List.length_append, List.length_cons, List.length_cons]
        have := ih.2; omega
  refine ⟨fun q hq => ?_, ?_⟩
  · rw [List.length_append]
    rcases List.mem_append.1 hq with hq | hq
    · have := (h init).1 q hq; omega
    · obtain rfl := List.mem_singleton.1 hq; omega
  · rw [List.length_append, List.length_append, List.length_singleton]
    have := (h init).2; omega
theorem own_capS2 {w : World} {base g n c : Nat} {xs : List Value} (h : w.ownsRow base 9 1 (.slice (some ⟨g, 0, none⟩) n c) n xs) : n ≤ c := by
  rcases h.2 with ⟨_, hn⟩ | ⟨g', cap, cur, hv, hb, hg, h1, h2, _⟩
  · omega
  · simp only [Value.slice.injEq] at hv
    obtain ⟨_, _, rfl⟩ := hv
    omega
theorem Only.grown_by {B g : Nat} {a w w' : World} (h : Only B a w) (hg : w.grownBy w' (some g)) (hgb : g = B ∨ a.heap.size ≤ g) : Only B a w' :=
  ⟨hg.os.trans h.os, hg.tape.trans h.tape, hg.output.trans h.output, Nat.le_trans h.size hg.size, fun i hi hne =>
    (hg.block i (Nat.lt_of_lt_of_le hi h.size) (fun e => by
      injection e with e
      rcases hgb with h9 | h9
      · exact hne (by rw [← h9, e])
      · omega)).trans (h.block i hi hne)⟩
theorem OwnI.far_block {w : World} {base B n c : Nat} {a : Option Addr} {zs : List Int} (h : OwnI w base (.slice a n c) zs) (hB : B < base) : ∀ b o, a = some ⟨b, o, none⟩ → b ≠ B := by
  rintro b o rfl
  rcases h.2 with ⟨hv, _⟩ | ⟨g, cap, cur, hv, hb, _⟩
  · simp at hv
  · simp only [Value.slice.injEq, Option.some.injEq, Addr.mk.injEq] at hv
    omega
set_option maxRecDepth 100000 in
set_option maxHeartbeats 8000000 in
theorem bp_spec (p : ByteArray) (w : World) (hp : p.size ≤ 1048576) :
    Calls Tryd.prog 12 #[.string p] w (BpPost p w) := by
  have HCT := Lib.hid (fun W => cut_any p 32 W (by omega))
  go_enter Tryd.func12, Tryd.ntmps12
  go_wp2_with fail
  refine (HCT.out _).mono ?_
  rintro e w1 ⟨ps, v, rfl, hown, hW, k1, hnil⟩
  have K1 : Keep w w1 := ((Keep.refl w).alloc _).trans k1
  have HRD := Lib.hid (fun s t f zs (hb : Bt p s t f zs) => bt_read hb hW)
  have HW := Lib.hid hW
  have hps : 0 < ps.length := by
    obtain ⟨i, l, e1, _⟩ := hW
    have := congrArg List.length e1
    simp at this; omega
  obtain ⟨g, cap, rfl, hc⟩ := own_str hown hps
  have hcap : ps.length ≤ cap := own_capS2 hown
  have hsz := words_size' hW
  rw [ba_len] at hsz
  have HSZ : Hid (∀ i, i < ps.length → (ps.getD i ⟨#[]⟩).size ≤ 1048576) := Lib.hid (fun i hi => by
    have h9 := hsz.1 (ps.getD i ⟨#[]⟩).data.toList (by
      refine List.mem_map.2 ⟨_, ?_, rfl⟩
      rw [List.getD_eq_getElem?_getD, List.getElem?_eq_getElem hi, Option.getD_some]
      exact List.getElem_mem _)
    rw [ba_len] at h9; omega)
  have HN1 : Hid (ps.length ≤ 1048577) := Lib.hid (by have h9 := hsz.2; rw [List.length_map] at h9; omega)
  have HC := Lib.hid hc
  have HKK : Hid (Keep w w1) := Lib.hid K1
  have HOUT : Hid (w1.ownsRow w.heap.size 31 4 (.slice (some ⟨w.heap.size, 0, none⟩) 0 0) 0 (flatR [])) := Lib.hid (own_keepP (World.ownsRow_made w #[] 0 (Nat.le_refl _) (by unfold maxLen; omega) rfl) k1)
  have HLT1 : Hid (w.heap.size < w1.heap.size) := Lib.hid (by have := k1.size; simp at this; omega)
  clear hown hW hnil hsz k1 HCT hps
  by_cases h5 : ps.length < 5
  · have HNB : Hid (∀ s t f zs, ¬ Bt p s t f zs) := Lib.hid (fun s t f zs hb => by have h9 := (HRD.out s t f zs hb).1; rw [List.length_map] at h9; omega)
    clear HRD HW HSZ HC hc
    obtain ⟨N, hN⟩ : ∃ N, ps.length = N := ⟨_, rfl⟩
    rw [hN] at h5
    rw [hN]
    have d5 : decide ((N : Int) < 5) = true := decide_eq_true (by omega)
    clear hN
    go_wp2
    go_ret2
    exact ⟨HKK.out, _, _, [], Nat.zero_le _, .inl rfl, .inr ⟨HNB.out, rfl, rfl⟩⟩
  have h5' : 5 ≤ ps.length := by omega
  rcases last_blank p with hno | ⟨m, hm, h32, hno⟩
  · exfalso
    have h9 := words_none (L := p.data.toList) (fun h => by
      obtain ⟨j, hj, he⟩ := List.getElem_of_mem h
      exact hno j (by rw [ba_len] at hj; exact hj) he) HW.out
    omega
  have HG := Lib.hid (fun W => sg_at p m W hp hm h32 hno)
  have HGF : Hid (gX p m = false → ∀ s t f zs, ¬ Bt p s t f zs) := Lib.hid (fun h9 s t f zs hb => by rw [(bt_front hm h32 hno hb).1] at h9; cases h9)
  generalize gX p m = gx at *
  clear hno h32 HW
  have c0 := hc 0 (by omega)
  have c1 := hc 1 (by omega)
  have c2 := hc 2 (by omega)
  have hs0 := HSZ.out 0 (by omega)
  have hs1 := HSZ.out 1 (by omega)
  have hs2 := HSZ.out 2 (by omega)
  have HM1 := Lib.hid (midP_len h5')
  have HMC : Hid (∀ i, i < (midP ps).length → w1.cell? ⟨g, 3 + i, none⟩ = some (.string ((midP ps).getD i ⟨#[]⟩))) := Lib.hid (fun i hi => by
    obtain ⟨e1, e2⟩ := midP_get hi
    rw [e1]; exact HC.out _ e2)
  have HMS : Hid (∀ i, i < (midP ps).length → ((midP ps).getD i ⟨#[]⟩).size ≤ 1048576) := Lib.hid (fun i hi => by
    obtain ⟨e1, e2⟩ := midP_get hi
    rw [e1]; exact HSZ.out _ e2)
  have HR2 : Hid (∀ s t f zs, Bt p s t f zs → wordOk (ps.getD 0 ⟨#[]⟩).data.toList 98 = true ∧ wordRaw (ps.getD 0 ⟨#[]⟩).data.toList 98 = s ∧ wordOk (ps.getD 1 ⟨#[]⟩).data.toList 107 = true ∧ wordRaw (ps.getD 1 ⟨#[]⟩).data.toList 107 = t ∧
      wordOk (ps.getD 2 ⟨#[]⟩).data.toList 100 = true ∧ wordRaw (ps.getD 2 ⟨#[]⟩).data.toList 100 = f ∧ ((midP ps).map (·.data.toList)).all wOk = true ∧ ((midP ps).map (·.data.toList)).map wV = zs) := Lib.hid (fun s t f zs hb => by
    have h9 := (HRD.out s t f zs hb).2
    rw [ws_get (by omega), ws_get (by omega), ws_get (by omega)] at h9
    rw [midP_map]; exact h9)
  have HN2 : Hid ((midP ps).length + 4 = ps.length) := Lib.hid (by rw [HM1.out]; omega)
  clear HRD hc HC HSZ HM1
  generalize midP ps = us at *
  generalize ps.getD 0 ⟨#[]⟩ = q0 at *
  generalize ps.getD 1 ⟨#[]⟩ = q1 at *
  generalize ps.getD 2 ⟨#[]⟩ = q2 at *
  obtain ⟨N, hN⟩ : ∃ N, ps.length = N := ⟨_, rfl⟩
  rw [hN] at HN1 HN2 h5 h5' hcap
  rw [hN]
  clear hN
  have d5 : decide ((N : Int) < 5) = false := decide_eq_false (by omega)
  have n5 : ¬ (N : Int) < 5 := by omega
  have n0 : (0 : Int) < (N : Int) := by omega
  have n1 : (1 : Int) < (N : Int) := by omega
  have n2 : (2 : Int) < (N : Int) := by omega
  go_wp2_with fail
  refine (HG.out _).mono ?_
  rintro e w2 ⟨rfl, k2⟩
  have HK2 : Hid (Keep w1 w2) := Lib.hid k2
  replace HKK := Lib.hid (HKK.out.trans k2)
  have HOU2 := Lib.hid (own_keepP HOUT.out k2)
  have HLT2 := Lib.hid (Nat.lt_of_lt_of_le HLT1.out k2.size)
  replace c0 := k2.cell c0
  replace c1 := k2.cell c1
  replace c2 := k2.cell c2
  clear k2 K1
  cases gx
  case' false =>
    have HNB := Lib.hid (HGF.out rfl)
    clear HR2 HGF HG
    go_wp2
    go_ret2
    exact ⟨HKK.out, _, _, [], Nat.zero_le _, .inl rfl, .inr ⟨HNB.out, rfl, rfl⟩⟩
  clear HGF HG
  have HA0 := Lib.hid (fun W => sword_any q0 98 W hs0)
  have HA1 := Lib.hid (fun W => sword_any q1 107 W hs1)
  have HA2 := Lib.hid (fun W => sword_any q2 100 W hs2)
  unfold SWord at HA0 HA1 HA2
  have HBF := Lib.hid (wordRaw_bound q2.data.toList 100)
  generalize wordOk q0.data.toList 98 = A0 at *
  generalize wordRaw q0.data.toList 98 = S at *
  generalize wordOk q1.data.toList 107 = A1 at *
  generalize wordRaw q1.data.toList 107 = T at *
  generalize wordOk q2.data.toList 100 = A2 at *
  generalize wordRaw q2.data.toList 100 = F at *
  go_wp2_with fail
  refine (HA0.out _).mono ?_
  rintro e w3 ⟨rfl, rfl⟩
  go_wp2_with fail
  refine (HA1.out _).mono ?_
  rintro e w3 ⟨rfl, rfl⟩
  go_wp2_with fail
  refine (HA2.out _).mono ?_
  rintro e w3 ⟨rfl, rfl⟩
  have m3 : ¬ (cap = 3) := by omega
  have m4 : IntKind.i64.wrap ((N : Int) - 1) = ((N - 1 : Nat) : Int) := by rw [show (N : Int) - 1 = ((N - 1 : Nat) : Int) by omega]; exact IntWalk.i64_in _ (by have := HN1.out; omega)
  have m5 : (3 : Int) ≤ ((N - 1 : Nat) : Int) := by omega
  have m6 : ((N - 1 : Nat) : Int) ≤ (cap : Int) := by omega
  go_wp2_with fail
  rw [show N - 1 - 3 = us.length by have := HN2.out; omega]
  have HUL : Hid (us.length ≤ 1048576) := Lib.hid (by have := HN1.out; have := HN2.out; omega)
  refine (vl_spec g 3 (cap - 3) us w2 (fun i hi => HK2.out.cell (HMC.out i hi)) HMS.out (by have := HUL.out; omega)).mono ?_
  rintro e w4 ⟨k4, hh⟩
  replace HKK := Lib.hid (HKK.out.trans k4)
  have HOU4 := Lib.hid (own_keepP HOU2.out k4)
  have hsz4 := k4.size
  clear HMC HMS c0 c1 c2 HA0 HA1 HA2 k4 HN2 HN1 m3 m4 m5 m6 h5 h5' hcap n0 n1 n2 n5 d5
  rcases hh with ⟨hall, v4, hO4, rfl⟩ | ⟨hall, a4, n4, c4, rfl⟩
  case' inr =>
    have HNB : Hid (∀ s t f zs, ¬ Bt p s t f zs) := Lib.hid (fun s t f zs hb => by have h9 := (HR2.out s t f zs hb).2.2.2.2.2.2.1; rw [hall] at h9; cases h9)
    clear HR2 hall HUL
    cases A0
    · go_wp2
      go_ret2
      exact ⟨HKK.out, _, _, [], Nat.zero_le _, .inl rfl, .inr ⟨HNB.out, rfl, rfl⟩⟩
    cases A1
    · go_wp2
      go_ret2
      exact ⟨HKK.out, _, _, [], Nat.zero_le _, .inl rfl, .inr ⟨HNB.out, rfl, rfl⟩⟩
    cases A2
    · go_wp2
      go_ret2
      exact ⟨HKK.out, _, _, [], Nat.zero_le _, .inl rfl, .inr ⟨HNB.out, rfl, rfl⟩⟩
    go_wp2
    go_ret2
    exact ⟨HKK.out, _, _, [], Nat.zero_le _, .inl rfl, .inr ⟨HNB.out, rfl, rfl⟩⟩
  have HZB : Hid (((us.map (·.data.toList)).map wV).length ≤ 1048576) := Lib.hid (by rw [List.length_map, List.length_map]; exact HUL.out)
  generalize (us.map (·.data.toList)).map wV = Z at *
  clear hall HUL
  obtain ⟨a4, c4, rfl, hls⟩ := hO4.ls
  have HLS := Lib.hid hls
  have HAB := Lib.hid (hO4.far_block HLT2.out)
  clear hO4 hls
  cases A0
  · have HNB : Hid (∀ s t f zs, ¬ Bt p s t f zs) := Lib.hid (fun s t f zs hb => by have h9 := (HR2.out s t f zs hb).1; cases h9)
    clear HR2
    go_wp2
    go_ret2
    exact ⟨HKK.out, _, _, [], Nat.zero_le _, .inl rfl, .inr ⟨HNB.out, rfl, rfl⟩⟩
  cases A1
  · have HNB : Hid (∀ s t f zs, ¬ Bt p s t f zs) := Lib.hid (fun s t f zs hb => by have h9 := (HR2.out s t f zs hb).2.2.1; cases h9)
    clear HR2
    go_wp2
    go_ret2
    exact ⟨HKK.out, _, _, [], Nat.zero_le _, .inl rfl, .inr ⟨HNB.out, rfl, rfl⟩⟩
  cases A2
  · have HNB : Hid (∀ s t f zs, ¬ Bt p s t f zs) := Lib.hid (fun s t f zs hb => by have h9 := (HR2.out s t f zs hb).2.2.2.2.1; cases h9)
    clear HR2
    go_wp2
    go_ret2
    exact ⟨HKK.out, _, _, [], Nat.zero_le _, .inl rfl, .inr ⟨HNB.out, rfl, rfl⟩⟩
  have HR3 : Hid (∀ s t f zs, Bt p s t f zs → S = s ∧ T = t ∧ F = f ∧ Z = zs) := Lib.hid (fun s t f zs hb => by
    obtain ⟨_, e1, _, e2, _, e3, _, e4⟩ := HR2.out s t f zs hb
    exact ⟨e1, e2, e3, e4⟩)
  clear HR2
  have hz := HZB.out
  have HB := Lib.hid (fun W (hk : Keep w4 W) => bo_any a4 c4 S T F Z W (HLS.out.keep hk) hz)
  have HT := Lib.hid (fun W (hk : Keep w4 W) => bt_spec' a4 c4 S T F Z W (HLS.out.keep hk) hz)
  obtain ⟨ok, hok⟩ : ∃ x, btOk S T F Z = x := ⟨_, rfl⟩
  rw [hok] at HB
  cases ok
  · have HNB : Hid (∀ s t f zs, ¬ Bt p s t f zs) := Lib.hid (fun s t f zs hb => by
      obtain ⟨rfl, rfl, rfl, rfl⟩ := HR3.out s t f zs hb
      rw [hb.1] at hok; cases hok)
    clear HR3 HT hok
    go_wp2_with fail
    refine (HB.out _ (Keep.refl _)).mono ?_
    rintro e w5 ⟨rfl, k5⟩
    go_wp2
    go_ret2
    exact ⟨HKK.out.trans k5, _, _, [], Nat.zero_le _, .inl rfl, .inr ⟨HNB.out, rfl, rfl⟩⟩
  have HTL := Lib.hid (btT_yes hok)
  have hfs := btOk_facts hok
  obtain ⟨hS, hT2, hF, hZ, _⟩ := hfs
  have HYES : Hid (btT S T F Z = p → Bt p S T F Z) := Lib.hid (fun e => ⟨hok, by rw [← e, HTL.out]⟩)
  have HNOT : Hid (btT S T F Z ≠ p → ∀ s t f zs, ¬ Bt p s t f zs) := Lib.hid (fun hne s t f zs hb => by
    obtain ⟨rfl, rfl, rfl, rfl⟩ := HR3.out s t f zs hb
    refine hne ?_
    rw [HTL.out, ← hb.2])
  have htl : (btT S T F Z).toList = p.toList ↔ btT S T F Z = p := by
    rw [ByteArray.toList_eq, ByteArray.toList_eq]
    exact ⟨fun h => (bytes_eq h).trans (bytes_eq rfl).symm, fun h => by rw [h]⟩
  clear HTL hok HR3
  generalize btT S T F Z = q at *
  go_wp2_with fail
  refine (HB.out _ (Keep.refl _)).mono ?_
  rintro e w5 ⟨rfl, k5⟩
  replace HKK := Lib.hid (HKK.out.trans k5)
  go_wp2_with fail
  refine (HT.out _ k5).mono ?_
  rintro e w6 ⟨rfl, k6⟩
  replace HKK := Lib.hid (HKK.out.trans k6)
  have K46 := k5.trans k6
  replace HLS := Lib.hid (HLS.out.keep K46)
  have HOU6 := Lib.hid (own_keepP HOU4.out K46)
  have hsz6 := K46.size
  clear HB HT k5 k6 K46
  by_cases hq : q = p
  case' neg =>
    have HNB := Lib.hid (HNOT.out hq)
    have hne : ¬ q.toList = p.toList := fun h => hq (htl.1 h)
    have hneb : (q.toList == p.toList) = false := beq_eq_false_iff_ne.2 hne
    clear htl HYES HNOT
    go_wp2
    go_ret2
    exact ⟨HKK.out, _, _, [], Nat.zero_le _, .inl rfl, .inr ⟨HNB.out, rfl, rfl⟩⟩
  have HBT := Lib.hid (HYES.out hq)
  subst hq
  clear htl HYES HNOT
  go_wp2_with fail
  obtain ⟨i0, hi, hz0, hz1, hz2⟩ := info_parts infoRepS
  have hZ2 : Z.length ≤ 12 := hZ.2
  have HK6 := Lib.hid HKK.out
  have hw6 : w.heap.size ≤ w6.heap.size := HKK.out.size
  clear hz HZB HBF hZ hS hT2 hsz4 hsz6 hs0 hs1 hs2 HK2
  go_loopw [4, 14] (fun u i wr => ∃ (k n g c : Nat), k ≤ Z.length ∧ i = .int .i64 k ∧ u = .slice (some ⟨g, 0, none⟩) n c ∧ Hid (n = (bvR S T F Z k).length) ∧ Hid (wr.ownsRow w.heap.size 31 4 (.slice (some ⟨g, 0, none⟩) n c) n (flatR (bvR S T F Z k))) ∧ Hid (g = w.heap.size ∨ w6.heap.size ≤ g) ∧ Only w.heap.size w6 wr) (fun _ i _ => Z.length - (RowKit.intOf i).toNat)
  case atStart => exact ⟨0, 0, _, _, by omega, rfl, rfl, Lib.hid rfl, HOU6, Lib.hid (.inl rfl), Only.refl _ _⟩
  case round =>
    obtain ⟨k, n, g, c, hk, rfl, rfl, HLN, HW, HGB, hOn⟩ := hrel
    have HL := Lib.hid (hOn.ls HLS.out HAB.out)
    have hK : Keep w wr := HKK.out.trans' hOn (Nat.le_refl _)
    have hsz := hK.size
    have hln := bvR_len S T F Z k
    by_cases hlt : k < Z.length
    · obtain ⟨b, off, hae, hb, hcc⟩ := HL.out.all (by omega)
      have cz := hcc k hlt
      have HY : Hid (Z.getD k 0 ≠ -9999 → bvR S T F Z (k + 1) = bvR S T F Z k ++ [(S, F + (k : Int), T, Z.getD k 0)]) := Lib.hid (fun hy => by rw [bvR, if_neg hy])
      have HNO : Hid (Z.getD k 0 = -9999 → bvR S T F Z (k + 1) = bvR S T F Z k) := Lib.hid (fun hy => by rw [bvR, if_pos hy, List.append_nil])
      generalize Z.getD k 0 = z at *
      clear hcc
      subst hae
      by_cases hz : z = -9999
      · have hzd : (z != -9999) = false := by simp [hz]
        replace HY := Lib.hid (HNO.out hz)
        clear HNO hz
        go_wp2
        go_roundw
        case rel => exact ⟨k + 1, n, g, c, by omega, by go_num, rfl, Lib.hid (by rw [HY.out]; exact HLN.out), Lib.hid (by rw [HY.out]; exact HW.out), HGB, hOn⟩
        case measure => simp [RowKit.intOf]; omega
      · have hzd : (z != -9999) = true := by simp [hz]
        replace HY := Lib.hid (HY.out hz)
        clear HNO hz
        have hfk : IntKind.i64.wrap (F + (k : Int)) = F + (k : Int) := IntWalk.i64_in _ (by omega)
        have hlen : n ≤ 12 := by rw [HLN.out]; omega
        have hown2 : wr.ownsRow w.heap.size 31 4 (.slice (some ⟨g, 0, none⟩) n c) n (flatR (bvR S T F Z k)) := HW.out
        go_wp2_with (at_builtin; go_loud (refine wpList_append_lies _ rfl _ _ 27 rfl w.heap.size 31 i0 (.agg #[.int .i64 0, .int .i64 0, .int .i64 0, .int .i64 0]) 4 32 Tryd.underlying27 hi hz0 hz1 hz2 rfl (by decide) _ _ _ rfl (hown2.alloc _) ⟨wr.heap.size, 0, none⟩ 1 1 (rc (S, F + (k : Int), T, z)) rfl rfl (newsP wr) ?c2a (by decide) ?c3a ?c4a ?c5a (wr.heap.size + 1) ?c6a ?_))
        case c2a => exact rc_one _
        case c3a => unfold maxLen; omega
        case c4a => omega
        case c5a => first | omega | (simp; omega)
        case c6a => simp
        intro g' c' w5 hown' hgrow hwh hltg
        have HN : Hid (w5.ownsRow w.heap.size 31 4 (.slice (some ⟨g', 0, none⟩) (n + 1) c') (n + 1) (flatR (bvR S T F Z (k + 1)))) := Lib.hid (by rw [HY.out, flatR_app, flatR_one]; exact hown')
        have HN2 : Hid (n + 1 = (bvR S T F Z (k + 1)).length) := Lib.hid (by rw [HY.out, List.length_append, ← HLN.out]; rfl)
        have hos := hOn.size
        have HGB2 : Hid (g' = w.heap.size ∨ w6.heap.size ≤ g') := Lib.hid (by
          rcases hwh with h9 | h9
          · simp [Value.ownBlock] at h9; rw [← h9]; exact HGB.out
          · right; omega)
        have HON2 : Hid (Only w.heap.size w6 w5) := Lib.hid ((hOn.alloc (.cells #[.int .i64 S, .int .i64 (F + (k : Int)), .int .i64 T, .int .i64 z] 31)).grown_by hgrow HGB.out)
        clear hown' hgrow hwh hltg hown2 hlen
        go_wp2
        go_roundw
        case rel => exact ⟨k + 1, n + 1, g', c', by omega, by go_num, rfl, HN2, HN, HGB2, HON2.out⟩
        case measure => simp [RowKit.intOf]; omega
    · obtain rfl : k = Z.length := by omega
      have HF := Lib.hid (frR_own (w := w) (by have h1 := HW.out; rw [HLN.out] at h1; exact h1) (Nat.le_refl _))
      go_wp2
      go_ret2
      exact ⟨hK, some ⟨g, 0, none⟩, c, _, HF.out.2, HF.out.1, .inl ⟨S, T, F, Z, HBT.out, rfl, by rw [HLN.out]; rfl⟩⟩
end Go.Proofs.YtpdpcnblpcalaaaDoor
namespace Go.Proofs.YtpdpcnblpcalaaaDoor
open Go.RowKit
set_option linter.unusedVariables false

def BpOne (rs : List R4) (b : Bool) (w : World) (e : Ending) (w' : World) : Prop :=
  ∃ (a : Option Addr) (c : Nat), e = .returned (.tuple #[.slice a rs.length c, .bool b]) ∧ rs.length ≤ c ∧ FrR w w' a rs ∧ Keep w w'
theorem bp_one (p : ByteArray) : ∃ (rs : List R4) (b : Bool), rs.length ≤ 12 ∧ (b = true → ∃ s t f zs, Bt p s t f zs ∧ rs = bvR s t f zs zs.length) ∧ (∀ s t f zs, Bt p s t f zs → b = true ∧ rs = bvR s t f zs zs.length) ∧ (b = false → rs = []) ∧ ∀ w e w', BpPost p w e w' → BpOne rs b w e w' := by
  by_cases h : ∃ s t f zs, Bt p s t f zs
  · obtain ⟨s, t, f, zs, hB⟩ := h
    have hl := (btOk_facts hB.1).2.2.2.1
    have hn := bvR_len s t f zs zs.length
    refine ⟨bvR s t f zs zs.length, true, by omega, fun _ => ⟨s, t, f, zs, hB, rfl⟩, fun s' t' f' us hB' => ?_, fun h => (by cases h), ?_⟩
    · obtain ⟨rfl, rfl, rfl, rfl⟩ := hB.unique hB'
      exact ⟨rfl, rfl⟩
    · rintro w e w' ⟨k, a, c, rs, hc, hF, ⟨s', t', f', us, hB', rfl, rfl⟩ | ⟨hN, _, _⟩⟩
      · obtain ⟨rfl, rfl, rfl, rfl⟩ := hB.unique hB'
        exact ⟨a, c, rfl, hc, hF, k⟩
      · exact absurd hB (hN s t f zs)
  · refine ⟨[], false, by simp, fun h => (by cases h), fun s t f zs hB => absurd ⟨s, t, f, zs, hB⟩ h, fun _ => rfl, ?_⟩
    rintro w e w' ⟨k, a, c, rs, hc, hF, ⟨s', t', f', us, hB', _, _⟩ | ⟨hN, rfl, rfl⟩⟩
    · exact absurd ⟨s', t', f', us, hB'⟩ h
    · exact ⟨a, c, rfl, hc, hF, k⟩
end Go.Proofs.YtpdpcnblpcalaaaDoor
namespace Go.Proofs.YtpdpcnblpcalaaaDoor
open Go.RowKit Go.Lib
set_option linter.unusedVariables false

theorem gSn : Tryd.prog.globalNamed "loop.example/weatherarchive/impl.errUnreadable" = some 0 := by kernel_rfl
theorem gSnType : (Tryd.prog.globals[0]?).map (·.type) = some 51 := by kernel_rfl
theorem snStar : "*" ++ "errors.errorString" = "*errors.errorString" := by decide
theorem snRow (u : TypeId) (h : Tryd.prog.typeName? 3 u = some "*errors.errorString") : u = 119 :=
  typeName_ptr_named (nm := "errors.errorString") (by rw [snStar]; kernel_rfl) (by kernel_rfl) (by decide) u (by rw [snStar]; exact h)
set_option maxRecDepth 100000 in
theorem tabsE_of_laid {W : World} (h : laidMetH Tryd.prog [("math/bits.deBruijn32tab", Rows.laid_math_bits_deBruijn32tab), ("math/bits.deBruijn64tab", Rows.laid_math_bits_deBruijn64tab), ("internal/strconv.uint64pow10", Rows.laid_internal_strconv_uint64pow10), ("loop.example/weatherarchive/impl.errUnreadable", Rows.laid_loop_example_weatherarchive_impl_errUnreadable)] W) : TabsE W := by
  have h' : laidMet Tryd.prog [("math/bits.deBruijn32tab", Rows.laid_math_bits_deBruijn32tab), ("math/bits.deBruijn64tab", Rows.laid_math_bits_deBruijn64tab), ("internal/strconv.uint64pow10", Rows.laid_internal_strconv_uint64pow10), ("loop.example/weatherarchive/impl.errUnreadable", Rows.laid_loop_example_weatherarchive_impl_errUnreadable)] W := h
  obtain ⟨ps, ⟨_, _, _, _, _, _, _, _, _, _, ⟨_, _, _, _, _, _, _, _, _, _, ⟨g', t', cs, fuel, p, q, hg', ht', hvar, hd, ⟨g0, t0, cs0, f0, p0, q0, hg0, ht0, hv0, hd0, hrest, e0⟩, e1⟩, e2⟩, e3⟩, hnd, hrows⟩ := h'
  constructor
  · obtain rfl := Option.some.inj (gTab.symm.trans hg')
    obtain rfl := Option.some.inj (gTabType.symm.trans ht')
    rw [tabData_eq] at hd
    unfold Tabs TabIs
    rw [hvar, ← cells_of_tab Tryd.underlying111 Tryd.underlying105 cellsElt cellsTab hd]
  · obtain rfl := Option.some.inj (gSn.symm.trans hg0)
    obtain rfl := Option.some.inj (gSnType.symm.trans ht0)
    obtain ⟨l0⟩ := cs0
    have ok0 : ∀ u v, l0 = [.iface u v] → Value.okWide Tryd.prog W .any 0 u v := fun u v e => by
      subst e
      exact (hrows 0 0 (by rw [e3, e2, e1, e0]; simp [MemPlace.row])).2 u v (by simpa using World.var?_cell gSn hv0 0)
    obtain ⟨a0, s0, rfl, hc0, hs0, hz0, _⟩ := errorString_of_trod Tryd.underlying51 snRow Tryd.underlying119 Tryd.underlying143 rfl rfl Tryd.underlying9 (by kernel_rfl) (by kernel_rfl) hd0 ok0
    exact ⟨a0, by simpa using World.var?_cell gSn hv0 0⟩
noncomputable def lowE : Nat := (World.holding Tryd.prog default ⟨#[], #[], []⟩).heap.size
def snText : ByteArray := ⟨#[117, 110, 114, 101, 97, 100, 97, 98, 108, 101, 32, 116, 101, 120, 116]⟩
/-- A world that meets the list. -/
noncomputable def laidWorldE (os : Os) : World :=
  { World.holding Tryd.prog os ⟨#[.cells #[.string snText] 143], #[], []⟩ with heap := ((((World.holding Tryd.prog os ⟨#[.cells #[.string snText] 143], #[], []⟩).heap.modify 3 (layAt (laidCells Rows.laid_math_bits_deBruijn32tab))).modify 4 (layAt (laidCells Rows.laid_math_bits_deBruijn64tab))).modify 2 (layAt (laidCells Rows.laid_internal_strconv_uint64pow10))).modify 0 (layAt #[.iface 119 (.pointer (some ⟨lowE, 0, none⟩))]) }
end Go.Proofs.YtpdpcnblpcalaaaDoor
namespace Go.Proofs.YtpdpcnblpcalaaaDoor
open Go.RowKit
set_option linter.unusedVariables false

theorem bvR_mem {s t f : Int} {zs : List Int} : ∀ {k : Nat} {r : R4}, r ∈ bvR s t f zs k → ∃ j, j < k ∧ zs.getD j 0 ≠ -9999 ∧ r = (s, f + (j : Int), t, zs.getD j 0)
  | 0, r, h => absurd h (by simp [bvR])
  | k + 1, r, h => by
    rw [bvR, List.mem_append] at h
    rcases h with h | h
    · obtain ⟨j, hj, h1, h2⟩ := bvR_mem h
      exact ⟨j, by omega, h1, h2⟩
    · split at h
      · exact absurd h (by simp)
      · rename_i hz
        exact ⟨k, by omega, hz, List.mem_singleton.1 h⟩
theorem bvR_pw (s t f : Int) (zs : List Int) : ∀ k : Nat, (bvR s t f zs k).Pairwise (fun a b => rD a < rD b)
  | 0 => List.Pairwise.nil
  | k + 1 => by
    rw [bvR, List.pairwise_append]
    refine ⟨bvR_pw s t f zs k, by split <;> simp, fun a ha b hb => ?_⟩
    obtain ⟨j, hj, _, rfl⟩ := bvR_mem ha
    split at hb
    · exact absurd hb (by simp)
    · obtain rfl := List.mem_singleton.1 hb
      show f + (j : Int) < f + (k : Int); omega
theorem bvR_pre {s t f : Int} {zs : List Int} {k : Nat} : ∀ n, k ≤ n → ∃ rest, bvR s t f zs n = bvR s t f zs k ++ rest
  | 0, h => ⟨[], by obtain rfl : k = 0 := by omega
                    simp⟩
  | n + 1, h => by
    by_cases e : k = n + 1
    · subst e; exact ⟨[], by simp⟩
    · obtain ⟨r, hr⟩ := bvR_pre (s := s) (t := t) (f := f) (zs := zs) n (show k ≤ n by omega)
      exact ⟨_, by rw [bvR, hr, List.append_assoc]⟩
theorem bvR_at {s t f : Int} {zs : List Int} {k n : Nat} (hk : k < n) (hz : zs.getD k 0 ≠ -9999) :
    (bvR s t f zs k).length < (bvR s t f zs n).length ∧ (bvR s t f zs n).getD (bvR s t f zs k).length r0 = (s, f + (k : Int), t, zs.getD k 0) ∧ (bvR s t f zs (k + 1)).length = (bvR s t f zs k).length + 1 := by
  obtain ⟨rest, hr⟩ := bvR_pre (s := s) (t := t) (f := f) (zs := zs) n (show k + 1 ≤ n by omega)
  have e : bvR s t f zs (k + 1) = bvR s t f zs k ++ [(s, f + (k : Int), t, zs.getD k 0)] := by rw [bvR, if_neg hz]
  refine ⟨?_, ?_, ?_⟩
  · rw [hr, e]; simp
  · rw [hr, e, List.append_assoc, List.getD_eq_getElem?_getD, List.getElem?_append_right (Nat.le_refl _)]
    simp
  · rw [e]; simp
theorem bvR_skip {s t f : Int} {zs : List Int} {k : Nat} (hz : zs.getD k 0 = -9999) : bvR s t f zs (k + 1) = bvR s t f zs k := by
  rw [bvR, if_pos hz, List.append_nil]
theorem bvR_ok {s t f : Int} {zs : List Int} (h : btOk s t f zs = true) : stB (bvR s t f zs zs.length) = true := by
  have hl := (btOk_facts h).2.2.2.1
  have hn := bvR_len s t f zs zs.length
  simp only [btOk, Bool.and_eq_true] at h
  refine stB_yes (List.all_eq_true.2 fun r hr => ?_) (by omega)
  obtain ⟨j, hj, hz, rfl⟩ := bvR_mem hr
  have h1 := List.all_eq_true.1 h.1 j (List.mem_range.2 hj)
  simp only [btV, Bool.or_eq_true, decide_eq_true_eq] at h1
  rcases h1 with h1 | h1
  · exact absurd h1 hz
  · exact h1
/-- .. each as the first, each day behind the one before. -/
def AscR (rs : List R4) : Prop := (∀ i, i < rs.length → rS (rs.getD i r0) = rS (rs.getD 0 r0) ∧ rK (rs.getD i r0) = rK (rs.getD 0 r0)) ∧ ∀ i, i + 1 < rs.length → rD (rs.getD i r0) < rD (rs.getD (i + 1) r0)
theorem bvR_asc (s t f : Int) (zs : List Int) (n : Nat) : AscR (bvR s t f zs n) := by
  have hm : ∀ i, i < (bvR s t f zs n).length → rS ((bvR s t f zs n).getD i r0) = s ∧ rK ((bvR s t f zs n).getD i r0) = t := fun i hi => by
    have hmem : (bvR s t f zs n).getD i r0 ∈ bvR s t f zs n := by
      rw [List.getD_eq_getElem?_getD, List.getElem?_eq_getElem hi, Option.getD_some]; exact List.getElem_mem _
    obtain ⟨j, _, _, e⟩ := bvR_mem hmem
    rw [e]; exact ⟨rfl, rfl⟩
  refine ⟨fun i hi => ?_, fun i hi => ?_⟩
  · have h0 := hm 0 (by omega)
    have h1 := hm i hi
    rw [h0.1, h0.2]; exact h1
  · have h := List.pairwise_iff_getElem.1 (bvR_pw s t f zs n) i (i + 1) (by omega) hi (by omega)
    simp only [List.getD_eq_getElem?_getD]
    rw [List.getElem?_eq_getElem (show i < _ by omega), List.getElem?_eq_getElem hi]
    exact h
theorem bg_bt {p : ByteArray} {s t f : Int} {zs : List Int} (hb : Bt p s t f zs) (w : World) (T : TabsE w) (hp : p.size ≤ 1048576) :
    Calls Tryd.prog 10 #[.string p] w fun e w' => e = .returned (.bool true) ∧ Keep w w' := by
  obtain ⟨m, hm, h32, hno, hg, _⟩ := hb.at
  have h := bg_at p m w T hp hm (h32 hm) hno
  rw [hg] at h
  exact h
end Go.Proofs.YtpdpcnblpcalaaaDoor
