/- Flags of a series: the program, whose checks are closures in a table of its own, and the model answer 'foOk', 'foL'. -/
import Derived.Test.YtaghgapkjdkkfaaSq
import Derived.Test.YtaghgapkjdkkfaaRn
import Derived.Test.YtaghgapkjdkkfaaSe
import Derived.Laws.BitsAllLaws
namespace Go.Proofs.Ytaghgapkjdkkfaa
open Go.RowKit
set_option linter.unusedVariables false

theorem infoIntF : (Try.prog.info? 3).map (fun i => (i.zero, i.size, i.bytes)) = some (some (.int .i64 0), 1, 8) := by kernel_rfl
theorem own_keep {w w' : World} {base n : Nat} {e : TypeId} {v : Value} {vs : List Value} (h : w.ownsRow base e 1 v n vs) (k : Keep w w') : w'.ownsRow base e 1 v n vs := by
  refine World.ownsRow.kept h (⟨Below.os k, Below.tape k, Below.output k, Below.size k, fun i hi _ => Below.block k i hi⟩ : w.grownBy w' none) ?_
  cases hv : v.ownBlock with
  | none => left; rfl
  | some k => right; simp
/-- What FlagsOf answers. -/
def FoPost (zs : List Int) (lo hi st : Int) (w : World) (e : Ending) (w' : World) : Prop :=
  ∃ (a : Option Addr) (c : Nat), e = .returned (.tuple #[.slice a (foL zs lo hi st).length c, .bool (foOk zs st)]) ∧ Fresh w w' a (foL zs lo hi st) ∧ Keep w w'
theorem fo_post_no {zs : List Int} {lo hi st : Int} {w w' : World} (h : foOk zs st = false) (a : Option Addr) (c : Nat) (k : Keep w w') : FoPost zs lo hi st w (.returned (.tuple #[.slice a 0 c, .bool false])) w' := by
  have e := foL_no (lo := lo) (hi := hi) h
  refine ⟨a, c, ?_, .inl e, k⟩
  rw [e, h]; rfl
theorem limB_cases (lo hi x : Int) : (limB lo hi x = true ∧ decide (x < lo) = true) ∨ (limB lo hi x = true ∧ decide (x < lo) = false ∧ decide (hi < x) = true) ∨ (limB lo hi x = false ∧ decide (x < lo) = false ∧ decide (hi < x) = false) := by
  unfold limB inB
  by_cases h1 : x < lo
  · left; simp [h1]; try omega
  · by_cases h2 : hi < x
    · right; left; simp [h1, h2]
    · right; right; simp [h1, h2]; try omega
/-- The difference of two numbers, without its sign. -/
def dist (x y : Int) : Int := if x < y then y - x else x - y
theorem quietW {P : Program} {f : FuncId} {args : Array Value} {w : World} {n : Nat} {v : Value}
    (h : Calls P f args (w.drewN n) fun e w' => e = .returned v ∧ w.drewN n = w') : Calls P f args (w.drewN n) fun e w'' => e = .returned v ∧ ∃ m, w'' = w.drewN m :=
  h.mono fun _ _ ⟨he, hm⟩ => ⟨he, n, hm.symm⟩
theorem dist_in (x y st : Int) : decide (st < dist y x) = !(inB (x - y) (-st) st) := by
  unfold dist inB
  rw [Bool.eq_iff_iff]
  split <;> simp <;> omega
theorem retBw {a b : Bool} {w w' : World} (h : a = b) (k : Keep w w') : Ending.returned (.bool a) = .returned (.bool b) ∧ Keep w w' := ⟨retB h, k⟩

set_option maxHeartbeats 400000 in
theorem dist_any (x y : Int) (w : World) (x0 : -9999 ≤ x) (x1 : x ≤ 11000) (y0 : -9999 ≤ y) (y1 : y ≤ 11000) :
    Calls Try.prog 51 #[.int .i64 x, .int .i64 y] w fun e w' => e = .returned (.int .i64 (dist x y)) ∧ w = w' := by
  by_cases h : x < y
  · have hd : dist x y = y - x := by rw [dist, if_pos h]
    have H := Lib.hid hd
    clear hd
    go_enter Try.func51, Try.ntmps51
    go_wp2
    all_goals
      go_ret
      exact ⟨retI (by have := H.out; omega), rfl⟩
  · have hd : dist x y = x - y := by rw [dist, if_neg h]
    have H := Lib.hid hd
    clear hd
    go_enter Try.func51, Try.ntmps51
    go_wp2
    all_goals
      go_ret
      exact ⟨retI (by have := H.out; omega), rfl⟩
set_option maxHeartbeats 400000 in
theorem stv_any (x : Int) (w : World) :
    Calls Try.prog 40 #[.int .i64 x] w fun e w' => e = .returned (.bool (inB x 0 19999)) ∧ w = w' := by
  go_enter Try.func40, Try.ntmps40
  go_wp2
  all_goals
    go_ret
    refine ⟨retB ?_, rfl⟩
    rw [Bool.eq_iff_iff]; simp [inB]; try omega
set_option maxRecDepth 100000 in
set_option maxHeartbeats 1000000 in
theorem lim_any (a : Option Addr) (cap L H : Nat) (zs : List Int) (k : Nat) (lo hi : Int) (w : World) (h : Ls w a zs) (hk : k < zs.length)
    (cl : w.cell? ⟨L, 0, none⟩ = some (.int .i64 lo)) (ch : w.cell? ⟨H, 0, none⟩ = some (.int .i64 hi)) :
    Calls Try.prog 49 #[.slice a zs.length cap, .int .i64 (k : Int), .pointer (some ⟨L, 0, none⟩), .pointer (some ⟨H, 0, none⟩)] w fun e w' => e = .returned (.bool (limB lo hi (zs.getD k 0))) ∧ ∃ n, w' = w.drewN n := by
  obtain ⟨b, off, rfl, hb, hc⟩ := h.at_ hk
  have k0 : (0 : Int) ≤ (k : Int) := by omega
  have k1 : (k : Int) < (zs.length : Int) := by omega
  generalize zs.getD k 0 = x at hc
  rcases limB_cases lo hi x with ⟨hl, d1⟩ | ⟨hl, d1, d2⟩ | ⟨hl, d1, d2⟩
  all_goals
    have HL := Lib.hid hl
    clear hl
    go_enter Try.func49, Try.ntmps49
    go_wp2_with fail
    go_quiet (fail)
    go_wp2
    go_ret
    exact ⟨retB HL.out.symm, _, rfl⟩
set_option maxRecDepth 100000 in
set_option maxHeartbeats 1000000 in
theorem stp_any (a : Option Addr) (cap S : Nat) (zs : List Int) (k : Nat) (st : Int) (w : World) (h : Ls w a zs) (hk : k < zs.length) (hq : sqB zs = true) (hn : zs.getD k 0 ≠ -9999)
    (cs : w.cell? ⟨S, 0, none⟩ = some (.int .i64 st)) :
    Calls Try.prog 50 #[.slice a zs.length cap, .int .i64 (k : Int), .pointer (some ⟨S, 0, none⟩)] w fun e w' => e = .returned (.bool (stpB zs st k)) ∧ ∃ n, w' = w.drewN n := by
  obtain ⟨b, off, rfl, hb, hc⟩ := h.all (by omega)
  have ck := hc k hk
  have xb := sq_at hq hk
  have hl12 := (sq_facts hq).2.2
  have k0 : (0 : Int) ≤ (k : Int) := by omega
  have k1 : (k : Int) < (zs.length : Int) := by omega
  by_cases h0 : k = 0
  · subst h0
    have HS : Hid (stpB zs st 0 = false) := Lib.hid rfl
    clear hc ck xb hn
    go_enter Try.func50, Try.ntmps50
    go_wp2_with fail
    go_quiet (fail)
    go_wp2
    go_ret
    exact ⟨retB HS.out.symm, _, rfl⟩
  obtain ⟨m, rfl⟩ : ∃ m, k = m + 1 := ⟨k - 1, by omega⟩
  have cm := hc m (by omega)
  have yb := sq_at hq (show m < zs.length by omega)
  have HS : Hid (stpB zs st (m + 1) = (zs.getD m 0 != -9999 && !(inB (zs.getD (m + 1) 0 - zs.getD m 0) (-st) st))) := Lib.hid (by
    unfold stpB; simp)
  have m0 : (0 : Int) ≤ (m : Int) := by omega
  have m1 : (m : Int) < (zs.length : Int) := by omega
  clear hc
  generalize zs.getD (m + 1) 0 = x at ck xb HS hn
  generalize zs.getD m 0 = y at cm yb HS
  by_cases hy : y = -9999
  · subst hy
    replace HS : Hid (stpB zs st (m + 1) = false) := Lib.hid (by rw [HS.out]; rfl)
    clear yb xb
    go_enter Try.func50, Try.ntmps50
    go_wp2_with fail
    go_quiet (fail)
    go_wp2
    go_ret
    exact ⟨retB HS.out.symm, _, rfl⟩
  have hy2 : (y != -9999) = true := bne_iff_ne.2 hy
  have hy3 : (y == -9999) = false := beq_eq_false_iff_ne.2 hy
  replace HS : Hid (stpB zs st (m + 1) = decide (st < dist y x)) := Lib.hid (by rw [HS.out, hy2, dist_in]; rfl)
  have HD := Lib.hid (fun n => dist_any y x (w.drewN n) (by omega) (by omega) (by omega) (by omega))
  obtain ⟨d, hd⟩ : ∃ d, dist y x = d := ⟨_, rfl⟩
  rw [hd] at HS HD
  clear xb yb hd hn
  rcases Bool.eq_false_or_eq_true (decide (st < d)) with hs | hs
  all_goals
    rw [hs] at HS
    go_enter Try.func50, Try.ntmps50
    go_wp2_with fail
    go_quiet ((go_at_call 51; exact quietW (HD.out _)))
    go_wp2
    go_ret
    exact ⟨retB HS.out.symm, _, rfl⟩
set_option maxHeartbeats 400000 in
theorem sam_any (a : Option Addr) (cap : Nat) (zs : List Int) (k : Nat) (w : World) (h : Ls w a zs) (hk : k < zs.length) (hm : zs.length ≤ 12) :
    Calls Try.prog 52 #[.slice a zs.length cap, .int .i64 (k : Int)] w fun e w' => e = .returned (.bool (samB zs k)) ∧ ∃ n, w' = w.drewN n := by
  have HS : Hid (samB zs k = decide (4 ≤ runN zs k)) := Lib.hid rfl
  have HR := Lib.hid (ea_impl a cap zs k w h (by omega) hk)
  generalize runN zs k = r at HS HR
  go_enter Try.func52, Try.ntmps52
  go_wp2_with fail
  refine HR.out.mono ?_
  rintro e w' ⟨rfl, n, rfl⟩
  go_wp2
  go_ret
  exact ⟨retB (by rw [HS.out, Bool.eq_iff_iff]; simp; try omega), _, rfl⟩
/-- The table of checks. -/
structure Chk (w : World) (C : Nat) (lo hi st : Int) : Prop where
  ex : ∃ L H S : Nat, w.cell? ⟨L, 0, none⟩ = some (.int .i64 lo) ∧ w.cell? ⟨H, 0, none⟩ = some (.int .i64 hi) ∧ w.cell? ⟨S, 0, none⟩ = some (.int .i64 st) ∧
    w.cell? ⟨C, 0, none⟩ = some (.int .i64 2) ∧ w.cell? ⟨C, 1, none⟩ = some (.func (.func 49) #[] #[.pointer (some ⟨L, 0, none⟩), .pointer (some ⟨H, 0, none⟩)]) ∧
    w.cell? ⟨C, 2, none⟩ = some (.int .i64 4) ∧ w.cell? ⟨C, 3, none⟩ = some (.func (.func 50) #[] #[.pointer (some ⟨S, 0, none⟩)]) ∧
    w.cell? ⟨C, 4, none⟩ = some (.int .i64 8) ∧ w.cell? ⟨C, 5, none⟩ = some (.func (.func 52) #[] #[])
theorem Chk.keep {w w' : World} {C : Nat} {lo hi st : Int} (h : Chk w C lo hi st) (k : Keep w w') : Chk w' C lo hi st := by
  obtain ⟨L, H, S, h1, h2, h3, h4, h5, h6, h7, h8, h9⟩ := h.ex
  exact ⟨⟨L, H, S, k.cell h1, k.cell h2, k.cell h3, k.cell h4, k.cell h5, k.cell h6, k.cell h7, k.cell h8, k.cell h9⟩⟩
set_option maxHeartbeats 400000 in
theorem vc_any (lo hi st : Int) (w : World) :
    Calls Try.prog 41 #[.int .i64 lo, .int .i64 hi, .int .i64 st] w fun e w' => ∃ C : Nat, e = .returned (.slice (some ⟨C, 0, none⟩) 3 3) ∧ Chk w' C lo hi st ∧ Keep w w' := by
  go_enter Try.func41, Try.ntmps41
  go_wp2
  go_ret
  refine ⟨w.heap.size + 3, rfl, ⟨⟨w.heap.size, w.heap.size + 1, w.heap.size + 2, ?_, ?_, ?_, ?_, ?_, ?_, ?_, ?_, ?_⟩⟩, ?_⟩
  all_goals first | (go_simp; done) | exact ((((Keep.refl w).alloc _).alloc _).alloc _).alloc _
theorem run_store_func {P : Program} {w : World} {a : Addr} {m : Mode} (f : Fn) (x y : Array Value) : (store a (.func f x y) m).run P w = stored P w a (.func f x y) m := run_store P w a _ m rfl
attribute [local go_sem] run_store_func
theorem or02 : bits .or .i64 0 2 = 2 := by kernel_rfl
theorem or04 : bits .or .i64 0 4 = 4 := by kernel_rfl
theorem or24 : bits .or .i64 2 4 = 6 := by kernel_rfl
theorem or08 : bits .or .i64 0 8 = 8 := by kernel_rfl
theorem or28 : bits .or .i64 2 8 = 10 := by kernel_rfl
theorem or48 : bits .or .i64 4 8 = 12 := by kernel_rfl
theorem or68 : bits .or .i64 6 8 = 14 := by kernel_rfl
/-- The flags behind m checks. -/
def flp (l s b : Bool) : Nat → Int
  | 0 => 0
  | 1 => bt l 2
  | 2 => bt l 2 + bt s 4
  | _ => bt l 2 + bt s 4 + bt b 8
set_option maxRecDepth 100000 in
set_option maxHeartbeats 2000000 in
theorem fod_any (a : Option Addr) (cap C : Nat) (zs : List Int) (k : Nat) (lo hi st : Int) (w : World) (h : Ls w a zs) (hk : k < zs.length) (hq : sqB zs = true) (hC : Chk w C lo hi st) :
    Calls Try.prog 42 #[.slice a zs.length cap, .int .i64 (k : Int), .slice (some ⟨C, 0, none⟩) 3 3] w fun e w' => e = .returned (.int .i64 (fl zs lo hi st k)) ∧ Keep w w' := by
  obtain ⟨b, off, rfl, hb, hc⟩ := h.at_ hk
  have k0 : (0 : Int) ≤ (k : Int) := by omega
  have k1 : (k : Int) < (zs.length : Int) := by omega
  by_cases hx : zs.getD k 0 = -9999
  · have HF : Hid (fl zs lo hi st k = 1) := Lib.hid (by rw [fl, if_pos hx])
    rw [hx] at hc
    clear hx
    go_enter Try.func42, Try.ntmps42
    go_wp2
    go_ret
    exact ⟨retI HF.out.symm, Keep.refl _⟩
  have hx2 : (zs.getD k 0 == -9999) = false := beq_eq_false_iff_ne.2 hx
  have HF : Hid (fl zs lo hi st k = bt (limB lo hi (zs.getD k 0)) 2 + bt (stpB zs st k) 4 + bt (samB zs k) 8) := Lib.hid (by rw [fl, if_neg hx])
  have HL := Lib.hid (fun W L H => lim_any (some ⟨b, off, none⟩) cap L H zs k lo hi W)
  have HS := Lib.hid (fun W S hW => stp_any (some ⟨b, off, none⟩) cap S zs k st W hW hk hq hx)
  have HM := Lib.hid (fun W hW => sam_any (some ⟨b, off, none⟩) cap zs k W hW hk (sq_facts hq).2.2)
  generalize zs.getD k 0 = x at hc hx hx2 HF HL
  obtain ⟨l, hl⟩ : ∃ l, limB lo hi x = l := ⟨_, rfl⟩
  obtain ⟨s, hs⟩ : ∃ s, stpB zs st k = s := ⟨_, rfl⟩
  obtain ⟨m, hm⟩ : ∃ m, samB zs k = m := ⟨_, rfl⟩
  rw [hl] at HF HL
  rw [hs] at HF HS
  rw [hm] at HF HM
  clear hl hs hm hx
  go_enter Try.func42, Try.ntmps42
  go_wp2_with fail
  go_loopw [7, 17] (fun f i wr => ∃ q : Nat, q ≤ 3 ∧ i = .int .i64 (q : Int) ∧ f = .int .i64 (flp l s m q) ∧ Keep w wr) (fun _ i _ => 3 - (intOf i).toNat)
  case atStart => exact ⟨0, by omega, rfl, rfl, Keep.refl w⟩
  case round =>
    obtain ⟨q, hq3, rfl, rfl, hK⟩ := hrel
    obtain ⟨L, H, S, c1, c2, c3, c4, c5, c6, c7, c8, c9⟩ := (hC.keep hK).ex
    have hW := h.keep hK
    have hq4 : q = 0 ∨ q = 1 ∨ q = 2 ∨ q = 3 := by omega
    clear hC
    rcases hq4 with rfl | rfl | rfl | rfl
    · have hr := HL.out (wr.alloc (.cells #[.int .i64 2, .func (.func 49) #[] #[.pointer (some ⟨L, 0, none⟩), .pointer (some ⟨H, 0, none⟩)]] 56)) L H (hW.alloc _) hk (((Keep.refl wr).alloc _).cell c1) (((Keep.refl wr).alloc _).cell c2)
      cases l
      all_goals
        go_wp2_with fail
        refine hr.mono ?_
        rintro e w' ⟨rfl, n, rfl⟩
        go_wp2
        go_roundw
        case rel => exact ⟨1, by omega, by go_num, by first | rfl | exact congrArg (Value.int .i64) or02 | exact congrArg (Value.int .i64) or04 | exact congrArg (Value.int .i64) or24 | exact congrArg (Value.int .i64) or08 | exact congrArg (Value.int .i64) or28 | exact congrArg (Value.int .i64) or48 | exact congrArg (Value.int .i64) or68, (hK.alloc _).drewN n⟩
        case measure => simp [intOf]
    · have hr := HS.out (wr.alloc (.cells #[.int .i64 4, .func (.func 50) #[] #[.pointer (some ⟨S, 0, none⟩)]] 56)) S (hW.alloc _) (((Keep.refl wr).alloc _).cell c3)
      cases l <;> cases s
      all_goals
        go_wp2_with fail
        refine hr.mono ?_
        rintro e w' ⟨rfl, n, rfl⟩
        go_wp2
        go_roundw
        case rel => exact ⟨2, by omega, by go_num, by first | rfl | exact congrArg (Value.int .i64) or02 | exact congrArg (Value.int .i64) or04 | exact congrArg (Value.int .i64) or24 | exact congrArg (Value.int .i64) or08 | exact congrArg (Value.int .i64) or28 | exact congrArg (Value.int .i64) or48 | exact congrArg (Value.int .i64) or68, (hK.alloc _).drewN n⟩
        case measure => simp [intOf]
    · have hr := HM.out (wr.alloc (.cells #[.int .i64 8, .func (.func 52) #[] #[]] 56)) (hW.alloc _)
      cases l <;> cases s <;> cases m
      all_goals
        go_wp2_with fail
        refine hr.mono ?_
        rintro e w' ⟨rfl, n, rfl⟩
        go_wp2
        go_roundw
        case rel => exact ⟨3, by omega, by go_num, by first | rfl | exact congrArg (Value.int .i64) or02 | exact congrArg (Value.int .i64) or04 | exact congrArg (Value.int .i64) or24 | exact congrArg (Value.int .i64) or08 | exact congrArg (Value.int .i64) or28 | exact congrArg (Value.int .i64) or48 | exact congrArg (Value.int .i64) or68, (hK.alloc _).drewN n⟩
        case measure => simp [intOf]
    · go_wp2
      go_ret
      exact ⟨retI HF.out.symm, hK⟩
set_option maxRecDepth 100000 in
set_option maxHeartbeats 2000000 in
theorem fo_impl (a : Option Addr) (cap : Nat) (zs : List Int) (lo hi st : Int) (w : World) (h : Ls w a zs) (hm : zs.length ≤ 4611686018427387904) :
    Calls Try.prog 17 #[.slice a zs.length cap, .int .i64 lo, .int .i64 hi, .int .i64 st] w (FoPost zs lo hi st w) := by
  rcases Bool.eq_false_or_eq_true (sqB zs) with hq | hq
  case' inr =>
    have H : Hid (foOk zs st = false) := Lib.hid (by rw [foOk, hq]; rfl)
    go_enter Try.func17, Try.ntmps17
    go_wp2_with (go_at_call 24; refine (sqv_impl a cap zs _ h hm).mono ?_; rintro e w' ⟨he, rfl⟩; rw [hq] at he; subst he)
    go_ret2
    exact fo_post_no H.out none 0 (Keep.refl _)
  rcases Bool.eq_false_or_eq_true (inB st 0 19999) with hs | hs
  case' inr =>
    have H : Hid (foOk zs st = false) := Lib.hid (by rw [foOk, hq, hs]; rfl)
    go_enter Try.func17, Try.ntmps17
    go_wp2_with (first | (go_at_call 24; refine (sqv_impl a cap zs _ h hm).mono ?_; rintro e w' ⟨he, rfl⟩; rw [hq] at he; subst he) | (go_at_call 40; refine (stv_any st _).mono ?_; rintro e w' ⟨he, rfl⟩; rw [hs] at he; subst he))
    go_ret2
    exact fo_post_no H.out none 0 (Keep.refl _)
  have hok : foOk zs st = true := by rw [foOk, hq, hs]; rfl
  have HO := Lib.hid (And.intro hok (foL_yes (lo := lo) (hi := hi) hok))
  have HQ := Lib.hid hq
  obtain ⟨hl1, hl12⟩ := (sq_facts hq).2
  have hmk := Lib.hid (fun W => run_make_row' (P := Try.prog) 23 3 (.int .i64 0) 8 Try.underlying23 infoIntF rfl .i64 .i64 zs.length (by omega) (by omega) W)
  clear hok
  go_enter Try.func17, Try.ntmps17
  go_wp2_with (first | (go_at_call 24; refine (sqv_impl a cap zs _ h hm).mono ?_; rintro e w' ⟨he, rfl⟩; rw [hq] at he; subst he) | (go_at_call 40; refine (stv_any st _).mono ?_; rintro e w' ⟨he, rfl⟩; rw [hs] at he; subst he))
  clear hq hs
  refine (vc_any lo hi st _).mono ?_
  rintro e w2 ⟨C, rfl, hC, k2⟩
  have hmk2 := hmk.out w2
  have hL2 := h.keep k2
  have hz := k2.size
  clear hmk
  go_wp2_with fail
  go_loopw [30] (fun i wr => ∃ k : Nat, k ≤ zs.length ∧ i = .int .i64 k ∧ Hid (Wr wr w2.heap.size ((flL zs lo hi st).take k ++ List.replicate (zs.length - k) 0)) ∧ w2.heap.size < wr.heap.size ∧ Keep w2 wr) (fun i _ => zs.length - (intOf i).toNat)
  case atStart =>
    refine ⟨0, by omega, rfl, Lib.hid ?_, by simp, (Keep.refl w2).alloc _⟩
    intro j hj
    have hj' : j < zs.length := by simpa using hj
    refine ⟨(World.cell?_alloc_new w2 _ _ j).trans ?_, World.frozen?_alloc_at _ _ _ _ rfl⟩
    rw [made_at _ _ hj']
    simp [List.getD_eq_getElem?_getD, hj']
  case round =>
    obtain ⟨k, hk, rfl, HW, hlr, hK⟩ := hrel
    clear hmk2
    by_cases hlt : k < zs.length
    · have HP := Lib.hid (part_set (flL zs lo hi st) k (by rw [flL_len]; exact hlt))
      rw [flL_len, flL_at hlt] at HP
      have hl : ((flL zs lo hi st).take k ++ List.replicate (zs.length - k) 0).length = zs.length := by simp [flL_len]; omega
      have HD := Lib.hid (fod_any a cap C zs k lo hi st wr (hL2.keep hK) hlt HQ.out (hC.keep hK))
      generalize fl zs lo hi st k = y at HP HD
      clear hC
      go_wp2_with fail
      refine HD.out.mono ?_
      rintro e w4 ⟨rfl, k4⟩
      have HW4 := HW.out.keep k4
      obtain ⟨u0, u1⟩ := HW4 k (by rw [hl]; exact hlt)
      have HW2 := Lib.hid (HW4.set (by rw [hl]; exact hlt) y)
      rw [HP.out] at HW2
      have hlr4 : w2.heap.size < w4.heap.size := Nat.lt_of_lt_of_le hlr k4.size
      have hK4 := hK.trans k4
      generalize ((flL zs lo hi st).take k ++ List.replicate (zs.length - k) 0).getD k 0 = v at u0
      clear hl HP HW4
      go_wp2
      go_roundw
      case rel => exact ⟨k + 1, by omega, by go_num, HW2, by simpa [World.setCell] using hlr4, hK4.setCell (Nat.le_refl _) _⟩
      case measure => simp [intOf]; omega
    · have HW2 : Hid (Wr wr w2.heap.size (flL zs lo hi st)) := Lib.hid (by have h1 := HW.out; rw [List.take_of_length_le (by rw [flL_len]; omega), show zs.length - k = 0 by omega] at h1; simpa using h1)
      go_wp2
      go_ret2
      refine ⟨some ⟨w2.heap.size, 0, none⟩, zs.length, ?_, .inr ⟨_, rfl, hz, hlr, by rw [HO.out.2]; exact HW2.out⟩, k2.trans hK⟩
      rw [HO.out.1, HO.out.2, flL_len]
      rfl
theorem bnot_in (x lo hi : Int) : (!(inB x lo hi)) = limB lo hi x := rfl
set_option maxRecDepth 100000 in
set_option maxHeartbeats 2000000 in
theorem l12_any (a : Option Addr) (cap : Nat) (zs : List Int) (k : Nat) (lo hi st : Int) (w : World) (h : Ls w a zs) (hk : k < zs.length) (hq : sqB zs = true) (s0 : 0 ≤ st) (s1 : st ≤ 19999) :
    Calls Try.prog 44 #[.slice a zs.length cap, .int .i64 (k : Int), .int .i64 lo, .int .i64 hi, .int .i64 st] w fun e w' => e = .returned (.int .i64 (fl zs lo hi st k)) ∧ ∃ n, w' = w.drewN n := by
  obtain ⟨b, off, rfl, hb, hc⟩ := h.all (by omega)
  have ck := hc k hk
  have xb := sq_at hq hk
  have hl12 := (sq_facts hq).2.2
  have k0 : (0 : Int) ≤ (k : Int) := by omega
  have k1 : (k : Int) < (zs.length : Int) := by omega
  by_cases hx : zs.getD k 0 = -9999
  · have HF : Hid (fl zs lo hi st k = 1) := Lib.hid (by rw [fl, if_pos hx])
    rw [hx] at ck
    clear hx xb hc
    go_enter Try.func44, Try.ntmps44
    go_wp2
    go_ret
    exact ⟨retI HF.out.symm, 0, rfl⟩
  have hx2 : (zs.getD k 0 == -9999) = false := beq_eq_false_iff_ne.2 hx
  have HF : Hid (fl zs lo hi st k = bt (limB lo hi (zs.getD k 0)) 2 + bt (stpB zs st k) 4 + bt (samB zs k) 8) := Lib.hid (by rw [fl, if_neg hx])
  have HR := Lib.hid (fun n => lr_spec (some ⟨b, off, none⟩) cap zs k (w.drewN n) h (by omega) hk)
  have HM : Hid (samB zs k = decide (4 ≤ runN zs k)) := Lib.hid rfl
  have hrd := dn_le hk
  have hru := up_le hk
  have hrl : runN zs k ≤ 12 := by unfold runN; omega
  clear hrd hru
  obtain ⟨m, hm⟩ : ∃ m, samB zs k = m := ⟨_, rfl⟩
  obtain ⟨s, hs⟩ : ∃ s, stpB zs st k = s := ⟨_, rfl⟩
  obtain ⟨l, hl⟩ : ∃ l, limB lo hi (zs.getD k 0) = l := ⟨_, rfl⟩
  have HLi : Hid (inB (zs.getD k 0) lo hi = !l) := Lib.hid (by rw [← hl, limB, Bool.not_not])
  rw [hl, hs, hm] at HF
  rw [hm] at HM
  have HS := Lib.hid hs
  generalize runN zs k = r at HR HM hrl
  have HM4 : Hid (decide ((4 : Int) ≤ (r : Int)) = m) := Lib.hid (by rw [HM.out, Bool.eq_iff_iff]; simp; try omega)
  have hcase : (k = 0 ∧ s = false) ∨ (∃ q, k = q + 1 ∧ zs.getD q 0 = -9999 ∧ s = false) ∨ (∃ q, k = q + 1 ∧ zs.getD q 0 ≠ -9999 ∧ (-999 ≤ zs.getD q 0 ∧ zs.getD q 0 ≤ 10999) ∧ inB (zs.getD k 0 - zs.getD q 0) (-st) st = !s) := by
    rw [← hs]
    by_cases h0 : k = 0
    · left; subst h0; exact ⟨rfl, rfl⟩
    · right
      obtain ⟨q, rfl⟩ : ∃ q, k = q + 1 := ⟨k - 1, by omega⟩
      have yb := sq_at hq (show q < zs.length by omega)
      by_cases hy : zs.getD q 0 = -9999
      · left; exact ⟨q, rfl, hy, by unfold stpB; rw [show q + 1 - 1 = q by omega, hy]; simp⟩
      · right
        refine ⟨q, rfl, hy, by omega, ?_⟩
        have hy2 : (zs.getD q 0 != -9999) = true := bne_iff_ne.2 hy
        unfold stpB
        have hd : decide (0 < q + 1) = true := by simp
        rw [show q + 1 - 1 = q by omega, hy2, hd, Bool.true_and, Bool.true_and, Bool.not_not]
  have HC := Lib.hid hc
  clear hc hs hm hl hx
  generalize zs.getD k 0 = x at ck xb hx2 HLi hcase
  rcases hcase with ⟨rfl, rfl⟩ | ⟨q, rfl, hy, rfl⟩ | ⟨q, rfl, hy, ⟨y0, y1⟩, hin⟩
  · simp only [Nat.add_zero] at ck
    cases l <;> cases m
    all_goals
      go_enter Try.func44, Try.ntmps44
      go_wp2_with (go_at_call 43; refine (l6In_any _ _ _ _).mono ?_; rintro e w' ⟨he, rfl⟩; rw [HLi.out] at he; subst he)
      go_quiet (fail)
      go_wp2_with fail
      refine (HR.out _).mono ?_
      rintro e w' ⟨rfl, n, rfl⟩
      have hr4 := HM4.out
      have hr5 := HM.out.symm
      go_wp2
      go_ret
      exact ⟨retI HF.out.symm, by first | exact ⟨_, rfl⟩ | exact ⟨_, World.drewN_drewN ..⟩⟩
  · have cq := HC.out q (by omega)
    rw [hy] at cq
    clear hy
    have q0 : (0 : Int) ≤ (q : Int) := by omega
    have q1 : (q : Int) < (zs.length : Int) := by omega
    cases l <;> cases m
    all_goals
      go_enter Try.func44, Try.ntmps44
      go_wp2_with (go_at_call 43; refine (l6In_any _ _ _ _).mono ?_; rintro e w' ⟨he, rfl⟩; rw [HLi.out] at he; subst he)
      go_quiet (fail)
      go_wp2_with fail
      refine (HR.out _).mono ?_
      rintro e w' ⟨rfl, n, rfl⟩
      have hr4 := HM4.out
      have hr5 := HM.out.symm
      go_wp2
      go_ret
      exact ⟨retI HF.out.symm, by first | exact ⟨_, rfl⟩ | exact ⟨_, World.drewN_drewN ..⟩⟩
  · have cq := HC.out q (by omega)
    have q0 : (0 : Int) ≤ (q : Int) := by omega
    have q1 : (q : Int) < (zs.length : Int) := by omega
    generalize zs.getD q 0 = y at cq hy y0 y1 hin
    have hy2 : (y != -9999) = true := bne_iff_ne.2 hy
    have hy3 : (y == -9999) = false := beq_eq_false_iff_ne.2 hy
    have HI : Hid (∀ W : World, Calls Try.prog 43 #[.int .i64 (x - y), .int .i64 (-st), .int .i64 st] W fun e w' => e = .returned (.bool (!s)) ∧ W = w') := Lib.hid (fun W => by rw [← hin]; exact l6In_any _ _ _ _)
    have hw1 : IntKind.i64.wrap (x - y) = x - y := IntWalk.i64_in _ ⟨by omega, by omega⟩
    have hw2 : IntKind.i64.wrap (-st) = -st := IntWalk.i64_in _ ⟨by omega, by omega⟩
    clear hin hy
    cases l <;> cases m <;> cases s
    all_goals
      go_enter Try.func44, Try.ntmps44
      go_wp2_with (go_at_call 43; refine (l6In_any _ _ _ _).mono ?_; rintro e w' ⟨he, rfl⟩; rw [HLi.out] at he; subst he)
      go_quiet ((go_at_call 43; exact quietW (HI.out _)))
      go_wp2_with fail
      refine (HR.out _).mono ?_
      rintro e w' ⟨rfl, n, rfl⟩
      have hr4 := HM4.out
      have hr5 := HM.out.symm
      go_wp2
      go_ret
      exact ⟨retI HF.out.symm, by first | exact ⟨_, rfl⟩ | exact ⟨_, World.drewN_drewN ..⟩⟩
end Go.Proofs.Ytaghgapkjdkkfaa
